/- My texts BusRL, BusRL0, BusRL4, BusRS, BusRY, BusStep1, BusStep2, BusStep3, Phase, bound into one. -/
import Derived.Test.YtkbccccjjlkgbaaB4
import Derived.Test.YtkbccccjjlkgbaaRows
import Derived.Deep.RegionHeld3
/- Layer 14, the document's Load. (By gen-busrl.py.) -/
namespace Go.Proofs.Ytkbccccjjlkgbaa
open Go.RowKit
set_option linter.unusedVariables false
set_option linter.unusedSimpArgs false
set_option maxRecDepth 100000

set_option maxHeartbeats 4000000 in
theorem rload_port {S : Nat → Prop} {u : Value} {a : Option Addr} {len cap K : Nat} {x : BS} (k : Int) (w : World) (hK : K ≤ 1024) (hn : x.s.n ≤ 16) (hm : x.s.m ≤ 100000) (h : RefB S w u a len cap K x) (hS : ∀ k, S k → k < w.heap.size)  :
    Calls Try.prog 32 #[u, .int .u32 1048576, .int .i64 4, .int .u64 k] w fun e w' => ∃ v', e = .returned (.tuple #[v', .int .u32 0]) ∧ RefB S w' v' a len cap K x ∧ Below w.heap.size w w' := by
  have a0 : (0 : Int) ≤ 1048576 := by omega
  have a1 : (1048576 : Int) < 4294967296 := by omega
  have hcl : classZ K 1048576 4 = 2 := classZ_dev (isDev_t (by decide))
  obtain ⟨mv, rx, out, rfl, h0, hx, ho⟩ := id h
  obtain ⟨ra, rc, rfl⟩ := hx.form
  obtain ⟨oa, oc, rfl⟩ := ho.form
  obtain ⟨hb1, hb2, hB0, hsz⟩ := two_boxB w mv (.slice a len cap) (.int .i64 (x.s.c : Int)) (.slice ra x.s.n rc) (.bool x.s.ov) (.slice oa x.s.m oc) (.int .u64 x.o) (.int .u64 x.m) (.bool x.sf) (.bool x.off) (.int .u32 x.code)
  obtain ⟨W0, hW0⟩ : ∃ W0, W0 = (w.alloc (.cells #[mv, .slice a len cap, .int .i64 (x.s.c : Int), .slice ra x.s.n rc, .bool x.s.ov, .slice oa x.s.m oc, .int .u64 x.o, .int .u64 x.m, .bool x.sf, .bool x.off, .int .u32 x.code] 39)).alloc zeroB := ⟨_, rfl⟩
  rw [← hW0] at hb1 hb2 hB0 hsz
  have HW0 := Lib.hid hW0
  have HR0 := Lib.hid (h.two hB0)
  have HB0 := Lib.hid hB0
  have HX0 := Lib.hid hb1
  have HY0 := Lib.hid hb2
  have HSZ := Lib.hid hsz
  have HS : Hid (∀ k, S2 S w k → k < W0.heap.size) := fun k hk => by
    rcases hk with e | e | e
    · have := hS k e; omega
    · omega
    · omega
  have HL0 : Hid (LdW S w (.agg #[mv, .slice a len cap, .int .i64 (x.s.c : Int), .slice ra x.s.n rc, .bool x.s.ov, .slice oa x.s.m oc, .int .u64 x.o, .int .u64 x.m, .bool x.sf, .bool x.off, .int .u32 x.code]) a len cap K x mv (.slice a len cap) (.int .i64 (x.s.c : Int)) (.slice ra x.s.n rc) (.bool x.s.ov) (.slice oa x.s.m oc) (.int .u64 x.o) (.int .u64 x.m) (.bool x.sf) (.bool x.off) (.int .u32 x.code) W0) := ⟨hb1, hb2, h.two hB0, hB0⟩
  obtain ⟨Zm, cm, rfl, hcm, hSm, hlm, hrow⟩ := h0
  have HC : Hid (∀ W : World, Calls Try.prog 15 #[.slice (some ⟨Zm, 0, none⟩) (64 * K) cm, .int .u32 1048576, .int .i64 4] W fun e w' => e = .returned (.int .i64 2) ∧ w' = W) := fun W => by
    have := rclass14_any K (some ⟨Zm, 0, none⟩) cm 1048576 4 W hK a0 a1
    rwa [hcl] at this
  have HM : Hid (64 * K ≤ cm) := hcm
  have HH : Hid (x.s.n ≤ 16 ∧ x.s.m ≤ 100000) := ⟨hn, hm⟩
  clear hW0 h hx ho hb1 hb2 hB0 hsz hS hSm hlm hrow hcm hn hm hcl
  obtain ⟨p0, p1, p2, p3, p4, p5, p6, p7, p8, p9, p10⟩ := HX0.out.cells
  obtain ⟨f0, f1, f2, f3, f4, f5, f6, f7, f8, f9, f10⟩ := HX0.out.free
  obtain ⟨r0, r1, r2, r3, r4, r5, r6, r7, r8, r9, r10⟩ := HY0.out.cells
  obtain ⟨y0, y1, y2, y3, y4, y5, y6, y7, y8, y9, y10⟩ := HY0.out.free
  go_enter Try.func32, Try.ntmps32
  go_wp2_with fail
  rw [← HW0.out]
  go_wp2_with fail
  refine (HC.out W0).mono ?_
  rintro e w' ⟨rfl, hw⟩
  have hw := hw.symm
  subst hw
  go_wp2
  refine bodyPost_ret (v := .tuple #[.agg #[.slice (some ⟨Zm, 0, none⟩) (64 * K) cm, .slice a len cap, .int .i64 (x.s.c : Int), .slice ra x.s.n rc, .bool x.s.ov, .slice oa x.s.m oc, .int .u64 x.o, .int .u64 x.m, .bool x.sf, .bool x.off, .int .u32 x.code], .int .u32 0]) (by simp [results, Try.results32, go_sem, r0, r1, r2, r3, r4, r5, r6, r7, r8, r9, r10]) rfl ?_
  exact ⟨_, rfl, refB_end HB0.out HR0.out⟩

set_option maxHeartbeats 4000000 in
theorem rload_tim {S : Nat → Prop} {u : Value} {a : Option Addr} {len cap K : Nat} {x : BS} (b k : Int) (w : World) (hK : K ≤ 1024) (hn : x.s.n ≤ 16) (hm : x.s.m ≤ 100000) (h : RefB S w u a len cap K x) (hS : ∀ k, S k → k < w.heap.size) (a0 : 0 ≤ b) (a1 : b < 4294967296) (ht : hasT b = true) (m0 : 0 ≤ x.m) (m1 : x.m < 18446744073709551616) :
    Calls Try.prog 32 #[u, .int .u32 b, .int .i64 4, .int .u64 k] w fun e w' => ∃ v', e = .returned (.tuple #[v', .int .u32 (readT x.o x.m x.sf b k)]) ∧ RefB S w' v' a len cap K x ∧ Below w.heap.size w w' := by
  have hcl : classZ K b 4 = 2 := classZ_dev (isDev_t (by simp [devB, ht]))
  have hnp : (b == 1048576) = false := by rcases hasT_yes ht with rfl | rfl | rfl | rfl | rfl <;> decide
  have HT : Hid (∀ W : World, Calls Try.prog 44 #[.int .u32 b] W fun e w' => e = .returned (.bool true) ∧ w' = W) := fun W => by have := rhas13_any b W; rwa [ht] at this
  have HRD : Hid (∀ W : World, Calls Try.prog 53 #[.agg #[.int .u64 x.o, .int .u64 x.m, .bool x.sf], .int .u32 b, .int .u64 k] W fun e w' => e = .returned (.int .u32 (readT x.o x.m x.sf b k)) ∧ Below W.heap.size W w') := fun W => rread13_any x.o x.m x.sf b k W ht m0 m1
  obtain ⟨mv, rx, out, rfl, h0, hx, ho⟩ := id h
  obtain ⟨ra, rc, rfl⟩ := hx.form
  obtain ⟨oa, oc, rfl⟩ := ho.form
  obtain ⟨hb1, hb2, hB0, hsz⟩ := two_boxB w mv (.slice a len cap) (.int .i64 (x.s.c : Int)) (.slice ra x.s.n rc) (.bool x.s.ov) (.slice oa x.s.m oc) (.int .u64 x.o) (.int .u64 x.m) (.bool x.sf) (.bool x.off) (.int .u32 x.code)
  obtain ⟨W0, hW0⟩ : ∃ W0, W0 = (w.alloc (.cells #[mv, .slice a len cap, .int .i64 (x.s.c : Int), .slice ra x.s.n rc, .bool x.s.ov, .slice oa x.s.m oc, .int .u64 x.o, .int .u64 x.m, .bool x.sf, .bool x.off, .int .u32 x.code] 39)).alloc zeroB := ⟨_, rfl⟩
  rw [← hW0] at hb1 hb2 hB0 hsz
  have HW0 := Lib.hid hW0
  have HR0 := Lib.hid (h.two hB0)
  have HB0 := Lib.hid hB0
  have HX0 := Lib.hid hb1
  have HY0 := Lib.hid hb2
  have HSZ := Lib.hid hsz
  have HS : Hid (∀ k, S2 S w k → k < W0.heap.size) := fun k hk => by
    rcases hk with e | e | e
    · have := hS k e; omega
    · omega
    · omega
  have HL0 : Hid (LdW S w (.agg #[mv, .slice a len cap, .int .i64 (x.s.c : Int), .slice ra x.s.n rc, .bool x.s.ov, .slice oa x.s.m oc, .int .u64 x.o, .int .u64 x.m, .bool x.sf, .bool x.off, .int .u32 x.code]) a len cap K x mv (.slice a len cap) (.int .i64 (x.s.c : Int)) (.slice ra x.s.n rc) (.bool x.s.ov) (.slice oa x.s.m oc) (.int .u64 x.o) (.int .u64 x.m) (.bool x.sf) (.bool x.off) (.int .u32 x.code) W0) := ⟨hb1, hb2, h.two hB0, hB0⟩
  obtain ⟨Zm, cm, rfl, hcm, hSm, hlm, hrow⟩ := h0
  have HC : Hid (∀ W : World, Calls Try.prog 15 #[.slice (some ⟨Zm, 0, none⟩) (64 * K) cm, .int .u32 b, .int .i64 4] W fun e w' => e = .returned (.int .i64 2) ∧ w' = W) := fun W => by
    have := rclass14_any K (some ⟨Zm, 0, none⟩) cm b 4 W hK a0 a1
    rwa [hcl] at this
  have HM : Hid (64 * K ≤ cm) := hcm
  have HH : Hid (x.s.n ≤ 16 ∧ x.s.m ≤ 100000) := ⟨hn, hm⟩
  clear hW0 h hx ho hb1 hb2 hB0 hsz hS hSm hlm hrow hcm hn hm hcl
  obtain ⟨p0, p1, p2, p3, p4, p5, p6, p7, p8, p9, p10⟩ := HX0.out.cells
  obtain ⟨f0, f1, f2, f3, f4, f5, f6, f7, f8, f9, f10⟩ := HX0.out.free
  obtain ⟨r0, r1, r2, r3, r4, r5, r6, r7, r8, r9, r10⟩ := HY0.out.cells
  obtain ⟨y0, y1, y2, y3, y4, y5, y6, y7, y8, y9, y10⟩ := HY0.out.free
  clear a0 a1 ht m0 m1
  generalize readT x.o x.m x.sf b k = q at HRD ⊢
  go_enter Try.func32, Try.ntmps32
  go_wp2_with fail
  rw [← HW0.out]
  go_wp2_with fail
  refine (HC.out W0).mono ?_
  rintro e w' ⟨rfl, hw⟩
  have hw := hw.symm
  subst hw
  go_wp2_with fail
  refine (HT.out W0).mono ?_
  rintro e w' ⟨rfl, hw⟩
  have hw := hw.symm
  subst hw
  go_wp2_with fail
  go_region_with (go_at_call 53; refine (HRD.out _).mono ?_; rintro e w1 ⟨rfl, hb⟩; have HL1 := Lib.hid ((show LdW S w _ a len cap K x _ _ _ _ _ _ _ _ _ _ _ _ from (by first | exact HL0.out | exact HL0.out.on ((Below.refl _ _).drew))).on hb); obtain ⟨p0, p1, p2, p3, p4, p5, p6, p7, p8, p9, p10⟩ := HL1.out.1.cells; obtain ⟨f0, f1, f2, f3, f4, f5, f6, f7, f8, f9, f10⟩ := HL1.out.1.free; obtain ⟨r0, r1, r2, r3, r4, r5, r6, r7, r8, r9, r10⟩ := HL1.out.2.1.cells; obtain ⟨y0, y1, y2, y3, y4, y5, y6, y7, y8, y9, y10⟩ := HL1.out.2.1.free; clear hb)
  all_goals go_wp2
  all_goals refine bodyPost_ret (v := .tuple #[.agg #[.slice (some ⟨Zm, 0, none⟩) (64 * K) cm, .slice a len cap, .int .i64 (x.s.c : Int), .slice ra x.s.n rc, .bool x.s.ov, .slice oa x.s.m oc, .int .u64 x.o, .int .u64 x.m, .bool x.sf, .bool x.off, .int .u32 x.code], .int .u32 q]) (by simp [results, Try.results32, go_sem, r0, r1, r2, r3, r4, r5, r6, r7, r8, r9, r10]) rfl ?_
  all_goals exact ⟨_, rfl, refB_end HL1.out.2.2.2 HL1.out.2.2.1⟩

set_option maxHeartbeats 4000000 in
theorem rload_mem {S : Nat → Prop} {u : Value} {a : Option Addr} {len cap K : Nat} {x : BS} (b k : Int) (w : World) (hK : K ≤ 1024) (hn : x.s.n ≤ 16) (hm : x.s.m ≤ 100000) (h : RefB S w u a len cap K x) (hS : ∀ k, S k → k < w.heap.size) (pl nn : Nat) (ha : b = 2147483648 + (pl : Int)) (h1 : 1 ≤ nn) (h4 : nn ≤ 4) (hfit : pl + nn ≤ 64 * K) (hz : askZ K b nn = 0) (hbb : BdB K x.b) :
    Calls Try.prog 32 #[u, .int .u32 b, .int .i64 nn, .int .u64 k] w fun e w' => ∃ v', e = .returned (.tuple #[v', .int .u32 (numTo (fun i => x.b (pl + i)) nn)]) ∧ RefB S w' v' a len cap K x ∧ Below w.heap.size w w' := by
  have a0 : 0 ≤ b := by omega
  have a1 : b < 4294967296 := by omega
  have hcl : classZ K b nn = 1 := classZ_mem hz
  obtain ⟨mv, rx, out, rfl, h0, hx, ho⟩ := id h
  obtain ⟨ra, rc, rfl⟩ := hx.form
  obtain ⟨oa, oc, rfl⟩ := ho.form
  obtain ⟨hb1, hb2, hB0, hsz⟩ := two_boxB w mv (.slice a len cap) (.int .i64 (x.s.c : Int)) (.slice ra x.s.n rc) (.bool x.s.ov) (.slice oa x.s.m oc) (.int .u64 x.o) (.int .u64 x.m) (.bool x.sf) (.bool x.off) (.int .u32 x.code)
  obtain ⟨W0, hW0⟩ : ∃ W0, W0 = (w.alloc (.cells #[mv, .slice a len cap, .int .i64 (x.s.c : Int), .slice ra x.s.n rc, .bool x.s.ov, .slice oa x.s.m oc, .int .u64 x.o, .int .u64 x.m, .bool x.sf, .bool x.off, .int .u32 x.code] 39)).alloc zeroB := ⟨_, rfl⟩
  rw [← hW0] at hb1 hb2 hB0 hsz
  have HW0 := Lib.hid hW0
  have HR0 := Lib.hid (h.two hB0)
  have HB0 := Lib.hid hB0
  have HX0 := Lib.hid hb1
  have HY0 := Lib.hid hb2
  have HSZ := Lib.hid hsz
  have HS : Hid (∀ k, S2 S w k → k < W0.heap.size) := fun k hk => by
    rcases hk with e | e | e
    · have := hS k e; omega
    · omega
    · omega
  have HL0 : Hid (LdW S w (.agg #[mv, .slice a len cap, .int .i64 (x.s.c : Int), .slice ra x.s.n rc, .bool x.s.ov, .slice oa x.s.m oc, .int .u64 x.o, .int .u64 x.m, .bool x.sf, .bool x.off, .int .u32 x.code]) a len cap K x mv (.slice a len cap) (.int .i64 (x.s.c : Int)) (.slice ra x.s.n rc) (.bool x.s.ov) (.slice oa x.s.m oc) (.int .u64 x.o) (.int .u64 x.m) (.bool x.sf) (.bool x.off) (.int .u32 x.code) W0) := ⟨hb1, hb2, h.two hB0, hB0⟩
  obtain ⟨Zm, cm, rfl, hcm, hSm, hlm, hrow⟩ := h0
  have HC : Hid (∀ W : World, Calls Try.prog 15 #[.slice (some ⟨Zm, 0, none⟩) (64 * K) cm, .int .u32 b, .int .i64 nn] W fun e w' => e = .returned (.int .i64 1) ∧ w' = W) := fun W => by
    have := rclass14_any K (some ⟨Zm, 0, none⟩) cm b nn W hK a0 a1
    rwa [hcl] at this
  have HM : Hid (64 * K ≤ cm) := hcm
  have HH : Hid (x.s.n ≤ 16 ∧ x.s.m ≤ 100000) := ⟨hn, hm⟩
  clear hW0 h hx ho hb1 hb2 hB0 hsz hS hSm hlm hrow hcm hn hm hcl
  obtain ⟨p0, p1, p2, p3, p4, p5, p6, p7, p8, p9, p10⟩ := HX0.out.cells
  obtain ⟨f0, f1, f2, f3, f4, f5, f6, f7, f8, f9, f10⟩ := HX0.out.free
  obtain ⟨r0, r1, r2, r3, r4, r5, r6, r7, r8, r9, r10⟩ := HY0.out.cells
  obtain ⟨y0, y1, y2, y3, y4, y5, y6, y7, y8, y9, y10⟩ := HY0.out.free
  have HRD : Hid (∀ W : World, LdW S w (.agg #[.slice (some ⟨Zm, 0, none⟩) (64 * K) cm, .slice a len cap, .int .i64 (x.s.c : Int), .slice ra x.s.n rc, .bool x.s.ov, .slice oa x.s.m oc, .int .u64 x.o, .int .u64 x.m, .bool x.sf, .bool x.off, .int .u32 x.code]) a len cap K x (.slice (some ⟨Zm, 0, none⟩) (64 * K) cm) (.slice a len cap) (.int .i64 (x.s.c : Int)) (.slice ra x.s.n rc) (.bool x.s.ov) (.slice oa x.s.m oc) (.int .u64 x.o) (.int .u64 x.m) (.bool x.sf) (.bool x.off) (.int .u32 x.code) W → Calls Try.prog 52 #[.slice (some ⟨Zm, 0, none⟩) (64 * K) cm, .int .u32 b, .int .i64 nn] W fun e w' => e = .returned (.int .u32 (numTo (fun i => x.b (pl + i)) nn)) ∧ LdW S w (.agg #[.slice (some ⟨Zm, 0, none⟩) (64 * K) cm, .slice a len cap, .int .i64 (x.s.c : Int), .slice ra x.s.n rc, .bool x.s.ov, .slice oa x.s.m oc, .int .u64 x.o, .int .u64 x.m, .bool x.sf, .bool x.off, .int .u32 x.code]) a len cap K x (.slice (some ⟨Zm, 0, none⟩) (64 * K) cm) (.slice a len cap) (.int .i64 (x.s.c : Int)) (.slice ra x.s.n rc) (.bool x.s.ov) (.slice oa x.s.m oc) (.int .u64 x.o) (.int .u64 x.m) (.bool x.sf) (.bool x.off) (.int .u32 x.code) w') := fun W hW => by
    obtain ⟨Z', c', e, hc', -, -, hrow⟩ := (refB_get hW.2.2.1).1
    simp at e
    obtain ⟨rfl, rfl⟩ := e
    refine (rload10_any K pl nn b Zm cm x.b W hK hrow hbb ha h4 h1 hfit hc').mono ?_
    rintro e w' ⟨rfl, hq⟩
    exact ⟨rfl, hW.on (hq.below _)⟩
  clear a0 a1 ha h1 h4 hfit hz hbb
  generalize numTo (fun i => x.b (pl + i)) nn = q at HRD ⊢
  go_enter Try.func32, Try.ntmps32
  go_wp2_with fail
  rw [← HW0.out]
  go_wp2_with fail
  refine (HC.out W0).mono ?_
  rintro e w' ⟨rfl, hw⟩
  have hw := hw.symm
  subst hw
  go_wp2_with fail
  go_region_with (go_at_call 52; refine (HRD.out _ (show LdW S w (.agg #[.slice (some ⟨Zm, 0, none⟩) (64 * K) cm, .slice a len cap, .int .i64 (x.s.c : Int), .slice ra x.s.n rc, .bool x.s.ov, .slice oa x.s.m oc, .int .u64 x.o, .int .u64 x.m, .bool x.sf, .bool x.off, .int .u32 x.code]) a len cap K x (.slice (some ⟨Zm, 0, none⟩) (64 * K) cm) (.slice a len cap) (.int .i64 (x.s.c : Int)) (.slice ra x.s.n rc) (.bool x.s.ov) (.slice oa x.s.m oc) (.int .u64 x.o) (.int .u64 x.m) (.bool x.sf) (.bool x.off) (.int .u32 x.code) _ from (by first | exact HL0.out | exact HL0.out.on ((Below.refl _ _).drew)))).mono ?_; rintro e w1 ⟨rfl, hl⟩; have HL1 := Lib.hid hl; obtain ⟨p0, p1, p2, p3, p4, p5, p6, p7, p8, p9, p10⟩ := HL1.out.1.cells; obtain ⟨f0, f1, f2, f3, f4, f5, f6, f7, f8, f9, f10⟩ := HL1.out.1.free; obtain ⟨r0, r1, r2, r3, r4, r5, r6, r7, r8, r9, r10⟩ := HL1.out.2.1.cells; obtain ⟨y0, y1, y2, y3, y4, y5, y6, y7, y8, y9, y10⟩ := HL1.out.2.1.free; have hz0 := HL1.out.1.lt; have hz1 := HL1.out.2.1.lt; clear hl)
  all_goals go_wp2
  all_goals refine bodyPost_ret (v := .tuple #[.agg #[.slice (some ⟨Zm, 0, none⟩) (64 * K) cm, .slice a len cap, .int .i64 (x.s.c : Int), .slice ra x.s.n rc, .bool x.s.ov, .slice oa x.s.m oc, .int .u64 x.o, .int .u64 x.m, .bool x.sf, .bool x.off, .int .u32 x.code], .int .u32 q]) (by simp [results, Try.results32, go_sem, r0, r1, r2, r3, r4, r5, r6, r7, r8, r9, r10]) rfl ?_
  all_goals exact ⟨_, rfl, refB_end HL1.out.2.2.2 HL1.out.2.2.1⟩
end Go.Proofs.Ytkbccccjjlkgbaa

/- Layer 14, the document's Load of the console's register 0. (By gen-busrl.py.) -/
namespace Go.Proofs.Ytkbccccjjlkgbaa
open Go.RowKit
set_option linter.unusedVariables false
set_option linter.unusedSimpArgs false
set_option maxRecDepth 100000

set_option maxHeartbeats 4000000 in
theorem rload_con0 {S : Nat → Prop} {u : Value} {a : Option Addr} {len cap K : Nat} {x : BS} (k : Int) (w : World) (hK : K ≤ 1024) (hn : x.s.n ≤ 16) (hm : x.s.m ≤ 100000) (h : RefB S w u a len cap K x) (hS : ∀ k, S k → k < w.heap.size)  :
    Calls Try.prog 32 #[u, .int .u32 268435456, .int .i64 4, .int .u64 k] w fun e w' => ∃ v', e = .returned (.tuple #[v', .int .u32 (x.s.val 0)]) ∧ RefB S w' v' a len cap K { x with s := (x.s.rd 0) } ∧ Below w.heap.size w w' := by
  have a0 : (0 : Int) ≤ 268435456 := by omega
  have a1 : (268435456 : Int) < 4294967296 := by omega
  have hcl : classZ K 268435456 4 = 2 := classZ_dev (isDev_t (by decide))
  have HT : Hid (∀ W : World, Calls Try.prog 44 #[.int .u32 268435456] W fun e w' => e = .returned (.bool false) ∧ w' = W) := fun W => by have := rhas13_any 268435456 W; rwa [show hasT 268435456 = false from by decide] at this
  have hS1 : ∀ k, S k → k < w.heap.size := hS
  obtain ⟨mv, rx, out, rfl, h0, hx, ho⟩ := id h
  obtain ⟨ra, rc, rfl⟩ := hx.form
  obtain ⟨oa, oc, rfl⟩ := ho.form
  obtain ⟨hb1, hb2, hB0, hsz⟩ := two_boxB w mv (.slice a len cap) (.int .i64 (x.s.c : Int)) (.slice ra x.s.n rc) (.bool x.s.ov) (.slice oa x.s.m oc) (.int .u64 x.o) (.int .u64 x.m) (.bool x.sf) (.bool x.off) (.int .u32 x.code)
  obtain ⟨W0, hW0⟩ : ∃ W0, W0 = (w.alloc (.cells #[mv, .slice a len cap, .int .i64 (x.s.c : Int), .slice ra x.s.n rc, .bool x.s.ov, .slice oa x.s.m oc, .int .u64 x.o, .int .u64 x.m, .bool x.sf, .bool x.off, .int .u32 x.code] 39)).alloc zeroB := ⟨_, rfl⟩
  rw [← hW0] at hb1 hb2 hB0 hsz
  have HW0 := Lib.hid hW0
  have HR0 := Lib.hid (h.two hB0)
  have HB0 := Lib.hid hB0
  have HX0 := Lib.hid hb1
  have HY0 := Lib.hid hb2
  have HSZ := Lib.hid hsz
  have HS : Hid (∀ k, S2 S w k → k < W0.heap.size) := fun k hk => by
    rcases hk with e | e | e
    · have := hS k e; omega
    · omega
    · omega
  have HL0 : Hid (LdW S w (.agg #[mv, .slice a len cap, .int .i64 (x.s.c : Int), .slice ra x.s.n rc, .bool x.s.ov, .slice oa x.s.m oc, .int .u64 x.o, .int .u64 x.m, .bool x.sf, .bool x.off, .int .u32 x.code]) a len cap K x mv (.slice a len cap) (.int .i64 (x.s.c : Int)) (.slice ra x.s.n rc) (.bool x.s.ov) (.slice oa x.s.m oc) (.int .u64 x.o) (.int .u64 x.m) (.bool x.sf) (.bool x.off) (.int .u32 x.code) W0) := ⟨hb1, hb2, h.two hB0, hB0⟩
  obtain ⟨Zm, cm, rfl, hcm, hSm, hlm, hrow⟩ := h0
  have HC : Hid (∀ W : World, Calls Try.prog 15 #[.slice (some ⟨Zm, 0, none⟩) (64 * K) cm, .int .u32 268435456, .int .i64 4] W fun e w' => e = .returned (.int .i64 2) ∧ w' = W) := fun W => by
    have := rclass14_any K (some ⟨Zm, 0, none⟩) cm 268435456 4 W hK a0 a1
    rwa [hcl] at this
  have HM : Hid (64 * K ≤ cm) := hcm
  have HH : Hid (x.s.n ≤ 16 ∧ x.s.m ≤ 100000) := ⟨hn, hm⟩
  clear hW0 h hx ho hb1 hb2 hB0 hsz hS hSm hlm hrow hcm hn hm hcl
  obtain ⟨p0, p1, p2, p3, p4, p5, p6, p7, p8, p9, p10⟩ := HX0.out.cells
  obtain ⟨f0, f1, f2, f3, f4, f5, f6, f7, f8, f9, f10⟩ := HX0.out.free
  obtain ⟨r0, r1, r2, r3, r4, r5, r6, r7, r8, r9, r10⟩ := HY0.out.cells
  obtain ⟨y0, y1, y2, y3, y4, y5, y6, y7, y8, y9, y10⟩ := HY0.out.free
  have HRD : Hid (∃ (s' : CS) (q : Int), s' = (x.s.rd 0) ∧ q = x.s.val 0 ∧ ∀ W : World, LdW S w (.agg #[.slice (some ⟨Zm, 0, none⟩) (64 * K) cm, .slice a len cap, .int .i64 (x.s.c : Int), .slice ra x.s.n rc, .bool x.s.ov, .slice oa x.s.m oc, .int .u64 x.o, .int .u64 x.m, .bool x.sf, .bool x.off, .int .u32 x.code]) a len cap K x (.slice (some ⟨Zm, 0, none⟩) (64 * K) cm) (.slice a len cap) (.int .i64 (x.s.c : Int)) (.slice ra x.s.n rc) (.bool x.s.ov) (.slice oa x.s.m oc) (.int .u64 x.o) (.int .u64 x.m) (.bool x.sf) (.bool x.off) (.int .u32 x.code) W → Calls Try.prog 54 #[.agg #[.slice a len cap, .int .i64 (x.s.c : Int), .slice ra x.s.n rc, .bool x.s.ov, .slice oa x.s.m oc], .int .i64 0] W fun e w' => ∃ ra' rc' oa' oc', e = .returned (.tuple #[.agg #[.slice a len cap, .int .i64 (s'.c : Int), .slice ra' s'.n rc', .bool s'.ov, .slice oa' s'.m oc'], .int .u32 q]) ∧ BsV (S2 S w) w' (.slice ra' s'.n rc') s'.n s'.f ∧ BsV (S2 S w) w' (.slice oa' s'.m oc') s'.m s'.g ∧ LdW S w (.agg #[.slice (some ⟨Zm, 0, none⟩) (64 * K) cm, .slice a len cap, .int .i64 (x.s.c : Int), .slice ra x.s.n rc, .bool x.s.ov, .slice oa x.s.m oc, .int .u64 x.o, .int .u64 x.m, .bool x.sf, .bool x.off, .int .u32 x.code]) a len cap K x (.slice (some ⟨Zm, 0, none⟩) (64 * K) cm) (.slice a len cap) (.int .i64 (x.s.c : Int)) (.slice ra x.s.n rc) (.bool x.s.ov) (.slice oa x.s.m oc) (.int .u64 x.o) (.int .u64 x.m) (.bool x.sf) (.bool x.off) (.int .u32 x.code) w') := ⟨_, _, rfl, rfl, fun W hW => by
    obtain ⟨-, hx, ho⟩ := refB_get hW.2.2.1
    refine (rread_0 (S2 S w) W HH.out.1 HH.out.2 ⟨_, _, rfl, hx, ho⟩ (hW.own hS1)).mono ?_
    rintro e w' ⟨v', rfl, ⟨rx', out', rfl, hx', ho'⟩, hb⟩
    obtain ⟨ra', rc', rfl⟩ := hx'.form
    obtain ⟨oa', oc', rfl⟩ := ho'.form
    exact ⟨ra', rc', oa', oc', rfl, hx', ho', hW.on hb⟩⟩
  obtain ⟨s', q, hs', hq, hrd⟩ := HRD.out
  rw [← hs', ← hq]
  have HRD1 := Lib.hid hrd
  clear hs' hq hrd HRD a0 a1 hS1
  go_enter Try.func32, Try.ntmps32
  go_wp2_with fail
  rw [← HW0.out]
  go_wp2_with fail
  refine (HC.out W0).mono ?_
  rintro e w' ⟨rfl, hw⟩
  have hw := hw.symm
  subst hw
  go_wp2_with fail
  refine (HT.out W0).mono ?_
  rintro e w' ⟨rfl, hw⟩
  have hw := hw.symm
  subst hw
  go_wp2_with fail
  refine (HRD1.out W0 HL0.out).mono ?_
  rintro e w1 ⟨ra', rc', oa', oc', rfl, hx', ho', hl⟩
  have HL1 := Lib.hid hl
  have HX1 := Lib.hid hx'
  have HO1 := Lib.hid ho'
  clear hx' ho' hl p0 p1 p2 p3 p4 p5 p6 p7 p8 p9 p10 f0 f1 f2 f3 f4 f5 f6 f7 f8 f9 f10 r0 r1 r2 r3 r4 r5 r6 r7 r8 r9 r10 y0 y1 y2 y3 y4 y5 y6 y7 y8 y9 y10
  obtain ⟨p0, p1, p2, p3, p4, p5, p6, p7, p8, p9, p10⟩ := HL1.out.1.cells; obtain ⟨f0, f1, f2, f3, f4, f5, f6, f7, f8, f9, f10⟩ := HL1.out.1.free; obtain ⟨r0, r1, r2, r3, r4, r5, r6, r7, r8, r9, r10⟩ := HL1.out.2.1.cells; obtain ⟨y0, y1, y2, y3, y4, y5, y6, y7, y8, y9, y10⟩ := HL1.out.2.1.free; have hz0 := HL1.out.1.lt; have hz1 := HL1.out.2.1.lt
  have hz2 : w.heap.size < w1.heap.size := hz0
  have HL2 := Lib.hid (HL1.out.on ((Below.refl w1.heap.size w1).alloc (Nat.le_refl _) (.cells #[.slice a len cap, .int .i64 (s'.c : Int), .slice ra' s'.n rc', .bool s'.ov, .slice oa' s'.m oc'] 32)))
  have HX2 := Lib.hid (HX1.out.on ((Below.refl w1.heap.size w1).alloc (Nat.le_refl _) (.cells #[.slice a len cap, .int .i64 (s'.c : Int), .slice ra' s'.n rc', .bool s'.ov, .slice oa' s'.m oc'] 32)))
  have HO2 := Lib.hid (HO1.out.on ((Below.refl w1.heap.size w1).alloc (Nat.le_refl _) (.cells #[.slice a len cap, .int .i64 (s'.c : Int), .slice ra' s'.n rc', .bool s'.ov, .slice oa' s'.m oc'] 32)))
  have HN2 := Lib.hid (heap_alloc_new w1 (.cells #[.slice a len cap, .int .i64 (s'.c : Int), .slice ra' s'.n rc', .bool s'.ov, .slice oa' s'.m oc'] 32))
  go_wp2_with (refine wpList_load_row rfl 32 (.tmp 10) rfl w1.heap.size 32 rfl _ _ HN2.out Try.underlying32 rfl (by kernel_rfl) ?_; clear p0 p1 p2 p3 p4 p5 p6 p7 p8 p9 p10 f0 f1 f2 f3 f4 f5 f6 f7 f8 f9 f10 r0 r1 r2 r3 r4 r5 r6 r7 r8 r9 r10 y0 y1 y2 y3 y4 y5 y6 y7 y8 y9 y10 hz0 hz1 hz2 HN2; generalize w1.alloc (.cells #[.slice a len cap, .int .i64 (s'.c : Int), .slice ra' s'.n rc', .bool s'.ov, .slice oa' s'.m oc'] 32) = w2 at *; obtain ⟨p0, p1, p2, p3, p4, p5, p6, p7, p8, p9, p10⟩ := HL2.out.1.cells; obtain ⟨f0, f1, f2, f3, f4, f5, f6, f7, f8, f9, f10⟩ := HL2.out.1.free; obtain ⟨r0, r1, r2, r3, r4, r5, r6, r7, r8, r9, r10⟩ := HL2.out.2.1.cells; obtain ⟨y0, y1, y2, y3, y4, y5, y6, y7, y8, y9, y10⟩ := HL2.out.2.1.free; have hz0 := HL2.out.1.lt; have hz1 := HL2.out.2.1.lt)
  refine bodyPost_ret (v := .tuple #[.agg #[.slice (some ⟨Zm, 0, none⟩) (64 * K) cm, .slice a len cap, .int .i64 (s'.c : Int), .slice ra' s'.n rc', .bool s'.ov, .slice oa' s'.m oc', .int .u64 x.o, .int .u64 x.m, .bool x.sf, .bool x.off, .int .u32 x.code], .int .u32 q]) (by simp [results, Try.results32, go_sem, r0, r1, r2, r3, r4, r5, r6, r7, r8, r9, r10]) rfl ?_
  have hR1 := refB_of (a := a) (len := len) (cap := cap) (K := K) { x with s := s' } (refB_get HL2.out.2.2.1).1 HX2.out HO2.out
  exact ⟨_, rfl, refB_fin HL2.out.2.2.2 hR1 (barC w.heap.size w2 (.slice a len cap) (.int .i64 (s'.c : Int)) (.slice ra' s'.n rc') (.bool s'.ov) (.slice oa' s'.m oc'))⟩
end Go.Proofs.Ytkbccccjjlkgbaa

/- Layer 14, the document's Load of the console's register 4. (By gen-busrl.py.) -/
namespace Go.Proofs.Ytkbccccjjlkgbaa
open Go.RowKit
set_option linter.unusedVariables false
set_option linter.unusedSimpArgs false
set_option maxRecDepth 100000

set_option maxHeartbeats 4000000 in
theorem rload_con4 {S : Nat → Prop} {u : Value} {a : Option Addr} {len cap K : Nat} {x : BS} (k : Int) (w : World) (hK : K ≤ 1024) (hn : x.s.n ≤ 16) (hm : x.s.m ≤ 100000) (h : RefB S w u a len cap K x) (hS : ∀ k, S k → k < w.heap.size)  :
    Calls Try.prog 32 #[u, .int .u32 268435460, .int .i64 4, .int .u64 k] w fun e w' => ∃ v', e = .returned (.tuple #[v', .int .u32 (x.s.val 4)]) ∧ RefB S w' v' a len cap K { x with s := (x.s.rd 4) } ∧ Below w.heap.size w w' := by
  have a0 : (0 : Int) ≤ 268435460 := by omega
  have a1 : (268435460 : Int) < 4294967296 := by omega
  have hcl : classZ K 268435460 4 = 2 := classZ_dev (isDev_t (by decide))
  have HT : Hid (∀ W : World, Calls Try.prog 44 #[.int .u32 268435460] W fun e w' => e = .returned (.bool false) ∧ w' = W) := fun W => by have := rhas13_any 268435460 W; rwa [show hasT 268435460 = false from by decide] at this
  have hS1 : ∀ k, S k → k < w.heap.size := hS
  obtain ⟨mv, rx, out, rfl, h0, hx, ho⟩ := id h
  obtain ⟨ra, rc, rfl⟩ := hx.form
  obtain ⟨oa, oc, rfl⟩ := ho.form
  obtain ⟨hb1, hb2, hB0, hsz⟩ := two_boxB w mv (.slice a len cap) (.int .i64 (x.s.c : Int)) (.slice ra x.s.n rc) (.bool x.s.ov) (.slice oa x.s.m oc) (.int .u64 x.o) (.int .u64 x.m) (.bool x.sf) (.bool x.off) (.int .u32 x.code)
  obtain ⟨W0, hW0⟩ : ∃ W0, W0 = (w.alloc (.cells #[mv, .slice a len cap, .int .i64 (x.s.c : Int), .slice ra x.s.n rc, .bool x.s.ov, .slice oa x.s.m oc, .int .u64 x.o, .int .u64 x.m, .bool x.sf, .bool x.off, .int .u32 x.code] 39)).alloc zeroB := ⟨_, rfl⟩
  rw [← hW0] at hb1 hb2 hB0 hsz
  have HW0 := Lib.hid hW0
  have HR0 := Lib.hid (h.two hB0)
  have HB0 := Lib.hid hB0
  have HX0 := Lib.hid hb1
  have HY0 := Lib.hid hb2
  have HSZ := Lib.hid hsz
  have HS : Hid (∀ k, S2 S w k → k < W0.heap.size) := fun k hk => by
    rcases hk with e | e | e
    · have := hS k e; omega
    · omega
    · omega
  have HL0 : Hid (LdW S w (.agg #[mv, .slice a len cap, .int .i64 (x.s.c : Int), .slice ra x.s.n rc, .bool x.s.ov, .slice oa x.s.m oc, .int .u64 x.o, .int .u64 x.m, .bool x.sf, .bool x.off, .int .u32 x.code]) a len cap K x mv (.slice a len cap) (.int .i64 (x.s.c : Int)) (.slice ra x.s.n rc) (.bool x.s.ov) (.slice oa x.s.m oc) (.int .u64 x.o) (.int .u64 x.m) (.bool x.sf) (.bool x.off) (.int .u32 x.code) W0) := ⟨hb1, hb2, h.two hB0, hB0⟩
  obtain ⟨Zm, cm, rfl, hcm, hSm, hlm, hrow⟩ := h0
  have HC : Hid (∀ W : World, Calls Try.prog 15 #[.slice (some ⟨Zm, 0, none⟩) (64 * K) cm, .int .u32 268435460, .int .i64 4] W fun e w' => e = .returned (.int .i64 2) ∧ w' = W) := fun W => by
    have := rclass14_any K (some ⟨Zm, 0, none⟩) cm 268435460 4 W hK a0 a1
    rwa [hcl] at this
  have HM : Hid (64 * K ≤ cm) := hcm
  have HH : Hid (x.s.n ≤ 16 ∧ x.s.m ≤ 100000) := ⟨hn, hm⟩
  clear hW0 h hx ho hb1 hb2 hB0 hsz hS hSm hlm hrow hcm hn hm hcl
  obtain ⟨p0, p1, p2, p3, p4, p5, p6, p7, p8, p9, p10⟩ := HX0.out.cells
  obtain ⟨f0, f1, f2, f3, f4, f5, f6, f7, f8, f9, f10⟩ := HX0.out.free
  obtain ⟨r0, r1, r2, r3, r4, r5, r6, r7, r8, r9, r10⟩ := HY0.out.cells
  obtain ⟨y0, y1, y2, y3, y4, y5, y6, y7, y8, y9, y10⟩ := HY0.out.free
  have HRD : Hid (∃ (s' : CS) (q : Int), s' = (x.s.rd 4) ∧ q = x.s.val 4 ∧ ∀ W : World, LdW S w (.agg #[.slice (some ⟨Zm, 0, none⟩) (64 * K) cm, .slice a len cap, .int .i64 (x.s.c : Int), .slice ra x.s.n rc, .bool x.s.ov, .slice oa x.s.m oc, .int .u64 x.o, .int .u64 x.m, .bool x.sf, .bool x.off, .int .u32 x.code]) a len cap K x (.slice (some ⟨Zm, 0, none⟩) (64 * K) cm) (.slice a len cap) (.int .i64 (x.s.c : Int)) (.slice ra x.s.n rc) (.bool x.s.ov) (.slice oa x.s.m oc) (.int .u64 x.o) (.int .u64 x.m) (.bool x.sf) (.bool x.off) (.int .u32 x.code) W → Calls Try.prog 54 #[.agg #[.slice a len cap, .int .i64 (x.s.c : Int), .slice ra x.s.n rc, .bool x.s.ov, .slice oa x.s.m oc], .int .i64 4] W fun e w' => ∃ ra' rc' oa' oc', e = .returned (.tuple #[.agg #[.slice a len cap, .int .i64 (s'.c : Int), .slice ra' s'.n rc', .bool s'.ov, .slice oa' s'.m oc'], .int .u32 q]) ∧ BsV (S2 S w) w' (.slice ra' s'.n rc') s'.n s'.f ∧ BsV (S2 S w) w' (.slice oa' s'.m oc') s'.m s'.g ∧ LdW S w (.agg #[.slice (some ⟨Zm, 0, none⟩) (64 * K) cm, .slice a len cap, .int .i64 (x.s.c : Int), .slice ra x.s.n rc, .bool x.s.ov, .slice oa x.s.m oc, .int .u64 x.o, .int .u64 x.m, .bool x.sf, .bool x.off, .int .u32 x.code]) a len cap K x (.slice (some ⟨Zm, 0, none⟩) (64 * K) cm) (.slice a len cap) (.int .i64 (x.s.c : Int)) (.slice ra x.s.n rc) (.bool x.s.ov) (.slice oa x.s.m oc) (.int .u64 x.o) (.int .u64 x.m) (.bool x.sf) (.bool x.off) (.int .u32 x.code) w') := ⟨_, _, rfl, rfl, fun W hW => by
    obtain ⟨-, hx, ho⟩ := refB_get hW.2.2.1
    refine (rread_4 (S2 S w) W HH.out.1 HH.out.2 ⟨_, _, rfl, hx, ho⟩ (hW.own hS1)).mono ?_
    rintro e w' ⟨v', rfl, ⟨rx', out', rfl, hx', ho'⟩, hb⟩
    obtain ⟨ra', rc', rfl⟩ := hx'.form
    obtain ⟨oa', oc', rfl⟩ := ho'.form
    exact ⟨ra', rc', oa', oc', rfl, hx', ho', hW.on hb⟩⟩
  obtain ⟨s', q, hs', hq, hrd⟩ := HRD.out
  rw [← hs', ← hq]
  have HRD1 := Lib.hid hrd
  clear hs' hq hrd HRD a0 a1 hS1
  go_enter Try.func32, Try.ntmps32
  go_wp2_with fail
  rw [← HW0.out]
  go_wp2_with fail
  refine (HC.out W0).mono ?_
  rintro e w' ⟨rfl, hw⟩
  have hw := hw.symm
  subst hw
  go_wp2_with fail
  refine (HT.out W0).mono ?_
  rintro e w' ⟨rfl, hw⟩
  have hw := hw.symm
  subst hw
  go_wp2_with fail
  refine (HRD1.out W0 HL0.out).mono ?_
  rintro e w1 ⟨ra', rc', oa', oc', rfl, hx', ho', hl⟩
  have HL1 := Lib.hid hl
  have HX1 := Lib.hid hx'
  have HO1 := Lib.hid ho'
  clear hx' ho' hl p0 p1 p2 p3 p4 p5 p6 p7 p8 p9 p10 f0 f1 f2 f3 f4 f5 f6 f7 f8 f9 f10 r0 r1 r2 r3 r4 r5 r6 r7 r8 r9 r10 y0 y1 y2 y3 y4 y5 y6 y7 y8 y9 y10
  obtain ⟨p0, p1, p2, p3, p4, p5, p6, p7, p8, p9, p10⟩ := HL1.out.1.cells; obtain ⟨f0, f1, f2, f3, f4, f5, f6, f7, f8, f9, f10⟩ := HL1.out.1.free; obtain ⟨r0, r1, r2, r3, r4, r5, r6, r7, r8, r9, r10⟩ := HL1.out.2.1.cells; obtain ⟨y0, y1, y2, y3, y4, y5, y6, y7, y8, y9, y10⟩ := HL1.out.2.1.free; have hz0 := HL1.out.1.lt; have hz1 := HL1.out.2.1.lt
  have hz2 : w.heap.size < w1.heap.size := hz0
  have HL2 := Lib.hid (HL1.out.on ((Below.refl w1.heap.size w1).alloc (Nat.le_refl _) (.cells #[.slice a len cap, .int .i64 (s'.c : Int), .slice ra' s'.n rc', .bool s'.ov, .slice oa' s'.m oc'] 32)))
  have HX2 := Lib.hid (HX1.out.on ((Below.refl w1.heap.size w1).alloc (Nat.le_refl _) (.cells #[.slice a len cap, .int .i64 (s'.c : Int), .slice ra' s'.n rc', .bool s'.ov, .slice oa' s'.m oc'] 32)))
  have HO2 := Lib.hid (HO1.out.on ((Below.refl w1.heap.size w1).alloc (Nat.le_refl _) (.cells #[.slice a len cap, .int .i64 (s'.c : Int), .slice ra' s'.n rc', .bool s'.ov, .slice oa' s'.m oc'] 32)))
  have HN2 := Lib.hid (heap_alloc_new w1 (.cells #[.slice a len cap, .int .i64 (s'.c : Int), .slice ra' s'.n rc', .bool s'.ov, .slice oa' s'.m oc'] 32))
  go_wp2_with (refine wpList_load_row rfl 32 (.tmp 10) rfl w1.heap.size 32 rfl _ _ HN2.out Try.underlying32 rfl (by kernel_rfl) ?_; clear p0 p1 p2 p3 p4 p5 p6 p7 p8 p9 p10 f0 f1 f2 f3 f4 f5 f6 f7 f8 f9 f10 r0 r1 r2 r3 r4 r5 r6 r7 r8 r9 r10 y0 y1 y2 y3 y4 y5 y6 y7 y8 y9 y10 hz0 hz1 hz2 HN2; generalize w1.alloc (.cells #[.slice a len cap, .int .i64 (s'.c : Int), .slice ra' s'.n rc', .bool s'.ov, .slice oa' s'.m oc'] 32) = w2 at *; obtain ⟨p0, p1, p2, p3, p4, p5, p6, p7, p8, p9, p10⟩ := HL2.out.1.cells; obtain ⟨f0, f1, f2, f3, f4, f5, f6, f7, f8, f9, f10⟩ := HL2.out.1.free; obtain ⟨r0, r1, r2, r3, r4, r5, r6, r7, r8, r9, r10⟩ := HL2.out.2.1.cells; obtain ⟨y0, y1, y2, y3, y4, y5, y6, y7, y8, y9, y10⟩ := HL2.out.2.1.free; have hz0 := HL2.out.1.lt; have hz1 := HL2.out.2.1.lt)
  refine bodyPost_ret (v := .tuple #[.agg #[.slice (some ⟨Zm, 0, none⟩) (64 * K) cm, .slice a len cap, .int .i64 (s'.c : Int), .slice ra' s'.n rc', .bool s'.ov, .slice oa' s'.m oc', .int .u64 x.o, .int .u64 x.m, .bool x.sf, .bool x.off, .int .u32 x.code], .int .u32 q]) (by simp [results, Try.results32, go_sem, r0, r1, r2, r3, r4, r5, r6, r7, r8, r9, r10]) rfl ?_
  have hR1 := refB_of (a := a) (len := len) (cap := cap) (K := K) { x with s := s' } (refB_get HL2.out.2.2.1).1 HX2.out HO2.out
  exact ⟨_, rfl, refB_fin HL2.out.2.2.2 hR1 (barC w.heap.size w2 (.slice a len cap) (.int .i64 (s'.c : Int)) (.slice ra' s'.n rc') (.bool s'.ov) (.slice oa' s'.m oc'))⟩
end Go.Proofs.Ytkbccccjjlkgbaa

/- Layer 14, the document's Store. (By gen-busrl.py.) -/
namespace Go.Proofs.Ytkbccccjjlkgbaa
open Go.RowKit
set_option linter.unusedVariables false
set_option linter.unusedSimpArgs false
set_option maxRecDepth 100000

set_option maxHeartbeats 4000000 in
theorem rstore_port {S : Nat → Prop} {u : Value} {a : Option Addr} {len cap K : Nat} {x : BS} (v k : Int) (w : World) (hK : K ≤ 1024) (hn : x.s.n ≤ 16) (hm : x.s.m ≤ 100000) (h : RefB S w u a len cap K x) (hS : ∀ k, S k → k < w.heap.size) (v0 : 0 ≤ v) (v1 : v < 4294967296) :
    Calls Try.prog 33 #[u, .int .u32 1048576, .int .i64 4, .int .u32 v, .int .u64 k] w fun e w' => ∃ v', e = .returned v' ∧ RefB S w' v' a len cap K { x with off := true, code := v } ∧ Below w.heap.size w w' := by
  have a0 : (0 : Int) ≤ 1048576 := by omega
  have a1 : (1048576 : Int) < 4294967296 := by omega
  have hcl : classZ K 1048576 4 = 2 := classZ_dev (isDev_t (by decide))
  obtain ⟨mv, rx, out, rfl, h0, hx, ho⟩ := id h
  obtain ⟨ra, rc, rfl⟩ := hx.form
  obtain ⟨oa, oc, rfl⟩ := ho.form
  obtain ⟨hb1, hb2, hB0, hsz⟩ := two_boxB w mv (.slice a len cap) (.int .i64 (x.s.c : Int)) (.slice ra x.s.n rc) (.bool x.s.ov) (.slice oa x.s.m oc) (.int .u64 x.o) (.int .u64 x.m) (.bool x.sf) (.bool x.off) (.int .u32 x.code)
  obtain ⟨W0, hW0⟩ : ∃ W0, W0 = (w.alloc (.cells #[mv, .slice a len cap, .int .i64 (x.s.c : Int), .slice ra x.s.n rc, .bool x.s.ov, .slice oa x.s.m oc, .int .u64 x.o, .int .u64 x.m, .bool x.sf, .bool x.off, .int .u32 x.code] 39)).alloc zeroB := ⟨_, rfl⟩
  rw [← hW0] at hb1 hb2 hB0 hsz
  have HW0 := Lib.hid hW0
  have HR0 := Lib.hid (h.two hB0)
  have HB0 := Lib.hid hB0
  have HX0 := Lib.hid hb1
  have HY0 := Lib.hid hb2
  have HSZ := Lib.hid hsz
  have HS : Hid (∀ k, S2 S w k → k < W0.heap.size) := fun k hk => by
    rcases hk with e | e | e
    · have := hS k e; omega
    · omega
    · omega
  have HL0 : Hid (LdW S w (.agg #[mv, .slice a len cap, .int .i64 (x.s.c : Int), .slice ra x.s.n rc, .bool x.s.ov, .slice oa x.s.m oc, .int .u64 x.o, .int .u64 x.m, .bool x.sf, .bool x.off, .int .u32 x.code]) a len cap K x mv (.slice a len cap) (.int .i64 (x.s.c : Int)) (.slice ra x.s.n rc) (.bool x.s.ov) (.slice oa x.s.m oc) (.int .u64 x.o) (.int .u64 x.m) (.bool x.sf) (.bool x.off) (.int .u32 x.code) W0) := ⟨hb1, hb2, h.two hB0, hB0⟩
  obtain ⟨Zm, cm, rfl, hcm, hSm, hlm, hrow⟩ := h0
  have HC : Hid (∀ W : World, Calls Try.prog 15 #[.slice (some ⟨Zm, 0, none⟩) (64 * K) cm, .int .u32 1048576, .int .i64 4] W fun e w' => e = .returned (.int .i64 2) ∧ w' = W) := fun W => by
    have := rclass14_any K (some ⟨Zm, 0, none⟩) cm 1048576 4 W hK a0 a1
    rwa [hcl] at this
  have HM : Hid (64 * K ≤ cm) := hcm
  have HH : Hid (x.s.n ≤ 16 ∧ x.s.m ≤ 100000) := ⟨hn, hm⟩
  clear hW0 h hx ho hb1 hb2 hB0 hsz hS hSm hlm hrow hcm hn hm hcl
  obtain ⟨p0, p1, p2, p3, p4, p5, p6, p7, p8, p9, p10⟩ := HX0.out.cells
  obtain ⟨f0, f1, f2, f3, f4, f5, f6, f7, f8, f9, f10⟩ := HX0.out.free
  obtain ⟨r0, r1, r2, r3, r4, r5, r6, r7, r8, r9, r10⟩ := HY0.out.cells
  obtain ⟨y0, y1, y2, y3, y4, y5, y6, y7, y8, y9, y10⟩ := HY0.out.free
  go_enter Try.func33, Try.ntmps33
  go_wp2_with fail
  rw [← HW0.out]
  go_wp2_with fail
  refine (HC.out W0).mono ?_
  rintro e w' ⟨rfl, hw⟩
  have hw := hw.symm
  subst hw
  go_wp2
  refine bodyPost_ret (v := .agg #[.slice (some ⟨Zm, 0, none⟩) (64 * K) cm, .slice a len cap, .int .i64 (x.s.c : Int), .slice ra x.s.n rc, .bool x.s.ov, .slice oa x.s.m oc, .int .u64 x.o, .int .u64 x.m, .bool x.sf, .bool true, .int .u32 v]) (by simp [results, Try.results33, go_sem, r0, r1, r2, r3, r4, r5, r6, r7, r8, r9, r10]) rfl ?_
  obtain ⟨g0, g1, g2⟩ := refB_get HL0.out.2.2.1
  exact ⟨_, rfl, refB_fin HB0.out (refB_of (a := a) (len := len) (cap := cap) (K := K) { x with off := true, code := v } g0 g1 g2) (barO w.heap.size W0 (.bool true) (.int .u32 v))⟩

set_option maxHeartbeats 4000000 in
theorem rstore_tim {S : Nat → Prop} {u : Value} {a : Option Addr} {len cap K : Nat} {x : BS} (b v k : Int) (w : World) (hK : K ≤ 1024) (hn : x.s.n ≤ 16) (hm : x.s.m ≤ 100000) (h : RefB S w u a len cap K x) (hS : ∀ k, S k → k < w.heap.size) (a0 : 0 ≤ b) (a1 : b < 4294967296) (v0 : 0 ≤ v) (v1 : v < 4294967296) (ht : hasT b = true) (m0 : 0 ≤ x.m) (m1 : x.m < 18446744073709551616) :
    Calls Try.prog 33 #[u, .int .u32 b, .int .i64 4, .int .u32 v, .int .u64 k] w fun e w' => ∃ v', e = .returned v' ∧ RefB S w' v' a len cap K { x with o := wO x.o b v k, m := wM x.m b v, sf := wS x.sf b v } ∧ Below w.heap.size w w' := by
  have hcl : classZ K b 4 = 2 := classZ_dev (isDev_t (by simp [devB, ht]))
  have hnp : (b == 1048576) = false := by rcases hasT_yes ht with rfl | rfl | rfl | rfl | rfl <;> decide
  have HT : Hid (∀ W : World, Calls Try.prog 44 #[.int .u32 b] W fun e w' => e = .returned (.bool true) ∧ w' = W) := fun W => by have := rhas13_any b W; rwa [ht] at this
  have HRD : Hid (∀ W : World, Calls Try.prog 57 #[.agg #[.int .u64 x.o, .int .u64 x.m, .bool x.sf], .int .u32 b, .int .u32 v, .int .u64 k] W fun e w' => e = .returned (.agg #[.int .u64 (wO x.o b v k), .int .u64 (wM x.m b v), .bool (wS x.sf b v)]) ∧ Below W.heap.size W w') := fun W => rwrite13_any x.o x.m x.sf b v k W ht m0 m1 v0 v1
  obtain ⟨mv, rx, out, rfl, h0, hx, ho⟩ := id h
  obtain ⟨ra, rc, rfl⟩ := hx.form
  obtain ⟨oa, oc, rfl⟩ := ho.form
  obtain ⟨hb1, hb2, hB0, hsz⟩ := two_boxB w mv (.slice a len cap) (.int .i64 (x.s.c : Int)) (.slice ra x.s.n rc) (.bool x.s.ov) (.slice oa x.s.m oc) (.int .u64 x.o) (.int .u64 x.m) (.bool x.sf) (.bool x.off) (.int .u32 x.code)
  obtain ⟨W0, hW0⟩ : ∃ W0, W0 = (w.alloc (.cells #[mv, .slice a len cap, .int .i64 (x.s.c : Int), .slice ra x.s.n rc, .bool x.s.ov, .slice oa x.s.m oc, .int .u64 x.o, .int .u64 x.m, .bool x.sf, .bool x.off, .int .u32 x.code] 39)).alloc zeroB := ⟨_, rfl⟩
  rw [← hW0] at hb1 hb2 hB0 hsz
  have HW0 := Lib.hid hW0
  have HR0 := Lib.hid (h.two hB0)
  have HB0 := Lib.hid hB0
  have HX0 := Lib.hid hb1
  have HY0 := Lib.hid hb2
  have HSZ := Lib.hid hsz
  have HS : Hid (∀ k, S2 S w k → k < W0.heap.size) := fun k hk => by
    rcases hk with e | e | e
    · have := hS k e; omega
    · omega
    · omega
  have HL0 : Hid (LdW S w (.agg #[mv, .slice a len cap, .int .i64 (x.s.c : Int), .slice ra x.s.n rc, .bool x.s.ov, .slice oa x.s.m oc, .int .u64 x.o, .int .u64 x.m, .bool x.sf, .bool x.off, .int .u32 x.code]) a len cap K x mv (.slice a len cap) (.int .i64 (x.s.c : Int)) (.slice ra x.s.n rc) (.bool x.s.ov) (.slice oa x.s.m oc) (.int .u64 x.o) (.int .u64 x.m) (.bool x.sf) (.bool x.off) (.int .u32 x.code) W0) := ⟨hb1, hb2, h.two hB0, hB0⟩
  obtain ⟨Zm, cm, rfl, hcm, hSm, hlm, hrow⟩ := h0
  have HC : Hid (∀ W : World, Calls Try.prog 15 #[.slice (some ⟨Zm, 0, none⟩) (64 * K) cm, .int .u32 b, .int .i64 4] W fun e w' => e = .returned (.int .i64 2) ∧ w' = W) := fun W => by
    have := rclass14_any K (some ⟨Zm, 0, none⟩) cm b 4 W hK a0 a1
    rwa [hcl] at this
  have HM : Hid (64 * K ≤ cm) := hcm
  have HH : Hid (x.s.n ≤ 16 ∧ x.s.m ≤ 100000) := ⟨hn, hm⟩
  clear hW0 h hx ho hb1 hb2 hB0 hsz hS hSm hlm hrow hcm hn hm hcl
  obtain ⟨p0, p1, p2, p3, p4, p5, p6, p7, p8, p9, p10⟩ := HX0.out.cells
  obtain ⟨f0, f1, f2, f3, f4, f5, f6, f7, f8, f9, f10⟩ := HX0.out.free
  obtain ⟨r0, r1, r2, r3, r4, r5, r6, r7, r8, r9, r10⟩ := HY0.out.cells
  obtain ⟨y0, y1, y2, y3, y4, y5, y6, y7, y8, y9, y10⟩ := HY0.out.free
  clear a0 a1 ht m0 m1
  generalize wO x.o b v k = o' at HRD ⊢
  generalize wM x.m b v = m' at HRD ⊢
  generalize wS x.sf b v = s' at HRD ⊢
  go_enter Try.func33, Try.ntmps33
  go_wp2_with fail
  rw [← HW0.out]
  go_wp2_with fail
  refine (HC.out W0).mono ?_
  rintro e w' ⟨rfl, hw⟩
  have hw := hw.symm
  subst hw
  go_wp2_with fail
  refine (HT.out W0).mono ?_
  rintro e w' ⟨rfl, hw⟩
  have hw := hw.symm
  subst hw
  go_wp2_with fail
  refine (HRD.out W0).mono ?_
  rintro e w1 ⟨rfl, hb⟩
  have HL1 := Lib.hid (HL0.out.on hb)
  clear hb p0 p1 p2 p3 p4 p5 p6 p7 p8 p9 p10 f0 f1 f2 f3 f4 f5 f6 f7 f8 f9 f10 r0 r1 r2 r3 r4 r5 r6 r7 r8 r9 r10 y0 y1 y2 y3 y4 y5 y6 y7 y8 y9 y10
  obtain ⟨p0, p1, p2, p3, p4, p5, p6, p7, p8, p9, p10⟩ := HL1.out.1.cells; obtain ⟨f0, f1, f2, f3, f4, f5, f6, f7, f8, f9, f10⟩ := HL1.out.1.free; obtain ⟨r0, r1, r2, r3, r4, r5, r6, r7, r8, r9, r10⟩ := HL1.out.2.1.cells; obtain ⟨y0, y1, y2, y3, y4, y5, y6, y7, y8, y9, y10⟩ := HL1.out.2.1.free; have hz0 := HL1.out.1.lt; have hz1 := HL1.out.2.1.lt
  go_wp2
  refine bodyPost_ret (v := .agg #[.slice (some ⟨Zm, 0, none⟩) (64 * K) cm, .slice a len cap, .int .i64 (x.s.c : Int), .slice ra x.s.n rc, .bool x.s.ov, .slice oa x.s.m oc, .int .u64 o', .int .u64 m', .bool s', .bool x.off, .int .u32 x.code]) (by simp [results, Try.results33, go_sem, r0, r1, r2, r3, r4, r5, r6, r7, r8, r9, r10]) rfl ?_
  obtain ⟨g0, g1, g2⟩ := refB_get HL1.out.2.2.1
  exact ⟨_, rfl, refB_fin HL1.out.2.2.2 (refB_of (a := a) (len := len) (cap := cap) (K := K) { x with o := o', m := m', sf := s' } g0 g1 g2) (barT w.heap.size w1 (.int .u64 o') (.int .u64 m') (.bool s'))⟩

set_option maxHeartbeats 4000000 in
theorem rstore_con0 {S : Nat → Prop} {u : Value} {a : Option Addr} {len cap K : Nat} {x : BS} (v k : Int) (w : World) (hK : K ≤ 1024) (hn : x.s.n ≤ 16) (hm : x.s.m ≤ 100000) (h : RefB S w u a len cap K x) (hS : ∀ k, S k → k < w.heap.size) (v0 : 0 ≤ v) (v1 : v < 4294967296) :
    Calls Try.prog 33 #[u, .int .u32 268435456, .int .i64 4, .int .u32 v, .int .u64 k] w fun e w' => ∃ v', e = .returned v' ∧ RefB S w' v' a len cap K { x with s := (x.s.wr 0 v) } ∧ Below w.heap.size w w' := by
  have a0 : (0 : Int) ≤ 268435456 := by omega
  have a1 : (268435456 : Int) < 4294967296 := by omega
  have hcl : classZ K 268435456 4 = 2 := classZ_dev (isDev_t (by decide))
  have HT : Hid (∀ W : World, Calls Try.prog 44 #[.int .u32 268435456] W fun e w' => e = .returned (.bool false) ∧ w' = W) := fun W => by have := rhas13_any 268435456 W; rwa [show hasT 268435456 = false from by decide] at this
  have hS1 : ∀ k, S k → k < w.heap.size := hS
  obtain ⟨mv, rx, out, rfl, h0, hx, ho⟩ := id h
  obtain ⟨ra, rc, rfl⟩ := hx.form
  obtain ⟨oa, oc, rfl⟩ := ho.form
  obtain ⟨hb1, hb2, hB0, hsz⟩ := two_boxB w mv (.slice a len cap) (.int .i64 (x.s.c : Int)) (.slice ra x.s.n rc) (.bool x.s.ov) (.slice oa x.s.m oc) (.int .u64 x.o) (.int .u64 x.m) (.bool x.sf) (.bool x.off) (.int .u32 x.code)
  obtain ⟨W0, hW0⟩ : ∃ W0, W0 = (w.alloc (.cells #[mv, .slice a len cap, .int .i64 (x.s.c : Int), .slice ra x.s.n rc, .bool x.s.ov, .slice oa x.s.m oc, .int .u64 x.o, .int .u64 x.m, .bool x.sf, .bool x.off, .int .u32 x.code] 39)).alloc zeroB := ⟨_, rfl⟩
  rw [← hW0] at hb1 hb2 hB0 hsz
  have HW0 := Lib.hid hW0
  have HR0 := Lib.hid (h.two hB0)
  have HB0 := Lib.hid hB0
  have HX0 := Lib.hid hb1
  have HY0 := Lib.hid hb2
  have HSZ := Lib.hid hsz
  have HS : Hid (∀ k, S2 S w k → k < W0.heap.size) := fun k hk => by
    rcases hk with e | e | e
    · have := hS k e; omega
    · omega
    · omega
  have HL0 : Hid (LdW S w (.agg #[mv, .slice a len cap, .int .i64 (x.s.c : Int), .slice ra x.s.n rc, .bool x.s.ov, .slice oa x.s.m oc, .int .u64 x.o, .int .u64 x.m, .bool x.sf, .bool x.off, .int .u32 x.code]) a len cap K x mv (.slice a len cap) (.int .i64 (x.s.c : Int)) (.slice ra x.s.n rc) (.bool x.s.ov) (.slice oa x.s.m oc) (.int .u64 x.o) (.int .u64 x.m) (.bool x.sf) (.bool x.off) (.int .u32 x.code) W0) := ⟨hb1, hb2, h.two hB0, hB0⟩
  obtain ⟨Zm, cm, rfl, hcm, hSm, hlm, hrow⟩ := h0
  have HC : Hid (∀ W : World, Calls Try.prog 15 #[.slice (some ⟨Zm, 0, none⟩) (64 * K) cm, .int .u32 268435456, .int .i64 4] W fun e w' => e = .returned (.int .i64 2) ∧ w' = W) := fun W => by
    have := rclass14_any K (some ⟨Zm, 0, none⟩) cm 268435456 4 W hK a0 a1
    rwa [hcl] at this
  have HM : Hid (64 * K ≤ cm) := hcm
  have HH : Hid (x.s.n ≤ 16 ∧ x.s.m ≤ 100000) := ⟨hn, hm⟩
  clear hW0 h hx ho hb1 hb2 hB0 hsz hS hSm hlm hrow hcm hn hm hcl
  obtain ⟨p0, p1, p2, p3, p4, p5, p6, p7, p8, p9, p10⟩ := HX0.out.cells
  obtain ⟨f0, f1, f2, f3, f4, f5, f6, f7, f8, f9, f10⟩ := HX0.out.free
  obtain ⟨r0, r1, r2, r3, r4, r5, r6, r7, r8, r9, r10⟩ := HY0.out.cells
  obtain ⟨y0, y1, y2, y3, y4, y5, y6, y7, y8, y9, y10⟩ := HY0.out.free
  have HRD : Hid (∃ (s' : CS), s' = (x.s.wr 0 v) ∧ ∀ W : World, LdW S w (.agg #[.slice (some ⟨Zm, 0, none⟩) (64 * K) cm, .slice a len cap, .int .i64 (x.s.c : Int), .slice ra x.s.n rc, .bool x.s.ov, .slice oa x.s.m oc, .int .u64 x.o, .int .u64 x.m, .bool x.sf, .bool x.off, .int .u32 x.code]) a len cap K x (.slice (some ⟨Zm, 0, none⟩) (64 * K) cm) (.slice a len cap) (.int .i64 (x.s.c : Int)) (.slice ra x.s.n rc) (.bool x.s.ov) (.slice oa x.s.m oc) (.int .u64 x.o) (.int .u64 x.m) (.bool x.sf) (.bool x.off) (.int .u32 x.code) W → Calls Try.prog 58 #[.agg #[.slice a len cap, .int .i64 (x.s.c : Int), .slice ra x.s.n rc, .bool x.s.ov, .slice oa x.s.m oc], .int .i64 0, .int .u32 v] W fun e w' => ∃ ra' rc' oa' oc', e = .returned (.agg #[.slice a len cap, .int .i64 (s'.c : Int), .slice ra' s'.n rc', .bool s'.ov, .slice oa' s'.m oc']) ∧ BsV (S2 S w) w' (.slice ra' s'.n rc') s'.n s'.f ∧ BsV (S2 S w) w' (.slice oa' s'.m oc') s'.m s'.g ∧ LdW S w (.agg #[.slice (some ⟨Zm, 0, none⟩) (64 * K) cm, .slice a len cap, .int .i64 (x.s.c : Int), .slice ra x.s.n rc, .bool x.s.ov, .slice oa x.s.m oc, .int .u64 x.o, .int .u64 x.m, .bool x.sf, .bool x.off, .int .u32 x.code]) a len cap K x (.slice (some ⟨Zm, 0, none⟩) (64 * K) cm) (.slice a len cap) (.int .i64 (x.s.c : Int)) (.slice ra x.s.n rc) (.bool x.s.ov) (.slice oa x.s.m oc) (.int .u64 x.o) (.int .u64 x.m) (.bool x.sf) (.bool x.off) (.int .u32 x.code) w') := ⟨_, rfl, fun W hW => by
    obtain ⟨-, hx, ho⟩ := refB_get hW.2.2.1
    refine (rwrite_0 (S2 S w) v v0 v1 W HH.out.1 HH.out.2 ⟨_, _, rfl, hx, ho⟩ (hW.own hS1)).mono ?_
    rintro e w' ⟨v', rfl, ⟨rx', out', rfl, hx', ho'⟩, hb⟩
    obtain ⟨ra', rc', rfl⟩ := hx'.form
    obtain ⟨oa', oc', rfl⟩ := ho'.form
    exact ⟨ra', rc', oa', oc', rfl, hx', ho', hW.on hb⟩⟩
  obtain ⟨s', hs', hrd⟩ := HRD.out
  rw [← hs']
  have HRD1 := Lib.hid hrd
  clear hs' hrd HRD a0 a1 hS1
  go_enter Try.func33, Try.ntmps33
  go_wp2_with fail
  rw [← HW0.out]
  go_wp2_with fail
  refine (HC.out W0).mono ?_
  rintro e w' ⟨rfl, hw⟩
  have hw := hw.symm
  subst hw
  go_wp2_with fail
  refine (HT.out W0).mono ?_
  rintro e w' ⟨rfl, hw⟩
  have hw := hw.symm
  subst hw
  go_wp2_with fail
  refine (HRD1.out W0 HL0.out).mono ?_
  rintro e w1 ⟨ra', rc', oa', oc', rfl, hx', ho', hl⟩
  have HL1 := Lib.hid hl
  have HX1 := Lib.hid hx'
  have HO1 := Lib.hid ho'
  clear hx' ho' hl p0 p1 p2 p3 p4 p5 p6 p7 p8 p9 p10 f0 f1 f2 f3 f4 f5 f6 f7 f8 f9 f10 r0 r1 r2 r3 r4 r5 r6 r7 r8 r9 r10 y0 y1 y2 y3 y4 y5 y6 y7 y8 y9 y10
  obtain ⟨p0, p1, p2, p3, p4, p5, p6, p7, p8, p9, p10⟩ := HL1.out.1.cells; obtain ⟨f0, f1, f2, f3, f4, f5, f6, f7, f8, f9, f10⟩ := HL1.out.1.free; obtain ⟨r0, r1, r2, r3, r4, r5, r6, r7, r8, r9, r10⟩ := HL1.out.2.1.cells; obtain ⟨y0, y1, y2, y3, y4, y5, y6, y7, y8, y9, y10⟩ := HL1.out.2.1.free; have hz0 := HL1.out.1.lt; have hz1 := HL1.out.2.1.lt
  have hz2 : w.heap.size < w1.heap.size := hz0
  go_wp2
  refine bodyPost_ret (v := .agg #[.slice (some ⟨Zm, 0, none⟩) (64 * K) cm, .slice a len cap, .int .i64 (s'.c : Int), .slice ra' s'.n rc', .bool s'.ov, .slice oa' s'.m oc', .int .u64 x.o, .int .u64 x.m, .bool x.sf, .bool x.off, .int .u32 x.code]) (by simp [results, Try.results33, go_sem, r0, r1, r2, r3, r4, r5, r6, r7, r8, r9, r10]) rfl ?_
  have hR1 := refB_of (a := a) (len := len) (cap := cap) (K := K) { x with s := s' } (refB_get HL1.out.2.2.1).1 HX1.out HO1.out
  exact ⟨_, rfl, refB_fin HL1.out.2.2.2 hR1 (barC w.heap.size w1 (.slice a len cap) (.int .i64 (s'.c : Int)) (.slice ra' s'.n rc') (.bool s'.ov) (.slice oa' s'.m oc'))⟩

set_option maxHeartbeats 4000000 in
theorem rstore_con4 {S : Nat → Prop} {u : Value} {a : Option Addr} {len cap K : Nat} {x : BS} (v k : Int) (w : World) (hK : K ≤ 1024) (hn : x.s.n ≤ 16) (hm : x.s.m ≤ 100000) (h : RefB S w u a len cap K x) (hS : ∀ k, S k → k < w.heap.size) (v0 : 0 ≤ v) (v1 : v < 4294967296) :
    Calls Try.prog 33 #[u, .int .u32 268435460, .int .i64 4, .int .u32 v, .int .u64 k] w fun e w' => ∃ v', e = .returned v' ∧ RefB S w' v' a len cap K { x with s := (x.s.wr 4 v) } ∧ Below w.heap.size w w' := by
  have a0 : (0 : Int) ≤ 268435460 := by omega
  have a1 : (268435460 : Int) < 4294967296 := by omega
  have hcl : classZ K 268435460 4 = 2 := classZ_dev (isDev_t (by decide))
  have HT : Hid (∀ W : World, Calls Try.prog 44 #[.int .u32 268435460] W fun e w' => e = .returned (.bool false) ∧ w' = W) := fun W => by have := rhas13_any 268435460 W; rwa [show hasT 268435460 = false from by decide] at this
  have hS1 : ∀ k, S k → k < w.heap.size := hS
  obtain ⟨mv, rx, out, rfl, h0, hx, ho⟩ := id h
  obtain ⟨ra, rc, rfl⟩ := hx.form
  obtain ⟨oa, oc, rfl⟩ := ho.form
  obtain ⟨hb1, hb2, hB0, hsz⟩ := two_boxB w mv (.slice a len cap) (.int .i64 (x.s.c : Int)) (.slice ra x.s.n rc) (.bool x.s.ov) (.slice oa x.s.m oc) (.int .u64 x.o) (.int .u64 x.m) (.bool x.sf) (.bool x.off) (.int .u32 x.code)
  obtain ⟨W0, hW0⟩ : ∃ W0, W0 = (w.alloc (.cells #[mv, .slice a len cap, .int .i64 (x.s.c : Int), .slice ra x.s.n rc, .bool x.s.ov, .slice oa x.s.m oc, .int .u64 x.o, .int .u64 x.m, .bool x.sf, .bool x.off, .int .u32 x.code] 39)).alloc zeroB := ⟨_, rfl⟩
  rw [← hW0] at hb1 hb2 hB0 hsz
  have HW0 := Lib.hid hW0
  have HR0 := Lib.hid (h.two hB0)
  have HB0 := Lib.hid hB0
  have HX0 := Lib.hid hb1
  have HY0 := Lib.hid hb2
  have HSZ := Lib.hid hsz
  have HS : Hid (∀ k, S2 S w k → k < W0.heap.size) := fun k hk => by
    rcases hk with e | e | e
    · have := hS k e; omega
    · omega
    · omega
  have HL0 : Hid (LdW S w (.agg #[mv, .slice a len cap, .int .i64 (x.s.c : Int), .slice ra x.s.n rc, .bool x.s.ov, .slice oa x.s.m oc, .int .u64 x.o, .int .u64 x.m, .bool x.sf, .bool x.off, .int .u32 x.code]) a len cap K x mv (.slice a len cap) (.int .i64 (x.s.c : Int)) (.slice ra x.s.n rc) (.bool x.s.ov) (.slice oa x.s.m oc) (.int .u64 x.o) (.int .u64 x.m) (.bool x.sf) (.bool x.off) (.int .u32 x.code) W0) := ⟨hb1, hb2, h.two hB0, hB0⟩
  obtain ⟨Zm, cm, rfl, hcm, hSm, hlm, hrow⟩ := h0
  have HC : Hid (∀ W : World, Calls Try.prog 15 #[.slice (some ⟨Zm, 0, none⟩) (64 * K) cm, .int .u32 268435460, .int .i64 4] W fun e w' => e = .returned (.int .i64 2) ∧ w' = W) := fun W => by
    have := rclass14_any K (some ⟨Zm, 0, none⟩) cm 268435460 4 W hK a0 a1
    rwa [hcl] at this
  have HM : Hid (64 * K ≤ cm) := hcm
  have HH : Hid (x.s.n ≤ 16 ∧ x.s.m ≤ 100000) := ⟨hn, hm⟩
  clear hW0 h hx ho hb1 hb2 hB0 hsz hS hSm hlm hrow hcm hn hm hcl
  obtain ⟨p0, p1, p2, p3, p4, p5, p6, p7, p8, p9, p10⟩ := HX0.out.cells
  obtain ⟨f0, f1, f2, f3, f4, f5, f6, f7, f8, f9, f10⟩ := HX0.out.free
  obtain ⟨r0, r1, r2, r3, r4, r5, r6, r7, r8, r9, r10⟩ := HY0.out.cells
  obtain ⟨y0, y1, y2, y3, y4, y5, y6, y7, y8, y9, y10⟩ := HY0.out.free
  have HRD : Hid (∃ (s' : CS), s' = (x.s.wr 4 v) ∧ ∀ W : World, LdW S w (.agg #[.slice (some ⟨Zm, 0, none⟩) (64 * K) cm, .slice a len cap, .int .i64 (x.s.c : Int), .slice ra x.s.n rc, .bool x.s.ov, .slice oa x.s.m oc, .int .u64 x.o, .int .u64 x.m, .bool x.sf, .bool x.off, .int .u32 x.code]) a len cap K x (.slice (some ⟨Zm, 0, none⟩) (64 * K) cm) (.slice a len cap) (.int .i64 (x.s.c : Int)) (.slice ra x.s.n rc) (.bool x.s.ov) (.slice oa x.s.m oc) (.int .u64 x.o) (.int .u64 x.m) (.bool x.sf) (.bool x.off) (.int .u32 x.code) W → Calls Try.prog 58 #[.agg #[.slice a len cap, .int .i64 (x.s.c : Int), .slice ra x.s.n rc, .bool x.s.ov, .slice oa x.s.m oc], .int .i64 4, .int .u32 v] W fun e w' => ∃ ra' rc' oa' oc', e = .returned (.agg #[.slice a len cap, .int .i64 (s'.c : Int), .slice ra' s'.n rc', .bool s'.ov, .slice oa' s'.m oc']) ∧ BsV (S2 S w) w' (.slice ra' s'.n rc') s'.n s'.f ∧ BsV (S2 S w) w' (.slice oa' s'.m oc') s'.m s'.g ∧ LdW S w (.agg #[.slice (some ⟨Zm, 0, none⟩) (64 * K) cm, .slice a len cap, .int .i64 (x.s.c : Int), .slice ra x.s.n rc, .bool x.s.ov, .slice oa x.s.m oc, .int .u64 x.o, .int .u64 x.m, .bool x.sf, .bool x.off, .int .u32 x.code]) a len cap K x (.slice (some ⟨Zm, 0, none⟩) (64 * K) cm) (.slice a len cap) (.int .i64 (x.s.c : Int)) (.slice ra x.s.n rc) (.bool x.s.ov) (.slice oa x.s.m oc) (.int .u64 x.o) (.int .u64 x.m) (.bool x.sf) (.bool x.off) (.int .u32 x.code) w') := ⟨_, rfl, fun W hW => by
    obtain ⟨-, hx, ho⟩ := refB_get hW.2.2.1
    refine (rwrite_4 (S2 S w) v W HH.out.1 HH.out.2 ⟨_, _, rfl, hx, ho⟩ (hW.own hS1)).mono ?_
    rintro e w' ⟨v', rfl, ⟨rx', out', rfl, hx', ho'⟩, hb⟩
    obtain ⟨ra', rc', rfl⟩ := hx'.form
    obtain ⟨oa', oc', rfl⟩ := ho'.form
    exact ⟨ra', rc', oa', oc', rfl, hx', ho', hW.on hb⟩⟩
  obtain ⟨s', hs', hrd⟩ := HRD.out
  rw [← hs']
  have HRD1 := Lib.hid hrd
  clear hs' hrd HRD a0 a1 hS1
  go_enter Try.func33, Try.ntmps33
  go_wp2_with fail
  rw [← HW0.out]
  go_wp2_with fail
  refine (HC.out W0).mono ?_
  rintro e w' ⟨rfl, hw⟩
  have hw := hw.symm
  subst hw
  go_wp2_with fail
  refine (HT.out W0).mono ?_
  rintro e w' ⟨rfl, hw⟩
  have hw := hw.symm
  subst hw
  go_wp2_with fail
  refine (HRD1.out W0 HL0.out).mono ?_
  rintro e w1 ⟨ra', rc', oa', oc', rfl, hx', ho', hl⟩
  have HL1 := Lib.hid hl
  have HX1 := Lib.hid hx'
  have HO1 := Lib.hid ho'
  clear hx' ho' hl p0 p1 p2 p3 p4 p5 p6 p7 p8 p9 p10 f0 f1 f2 f3 f4 f5 f6 f7 f8 f9 f10 r0 r1 r2 r3 r4 r5 r6 r7 r8 r9 r10 y0 y1 y2 y3 y4 y5 y6 y7 y8 y9 y10
  obtain ⟨p0, p1, p2, p3, p4, p5, p6, p7, p8, p9, p10⟩ := HL1.out.1.cells; obtain ⟨f0, f1, f2, f3, f4, f5, f6, f7, f8, f9, f10⟩ := HL1.out.1.free; obtain ⟨r0, r1, r2, r3, r4, r5, r6, r7, r8, r9, r10⟩ := HL1.out.2.1.cells; obtain ⟨y0, y1, y2, y3, y4, y5, y6, y7, y8, y9, y10⟩ := HL1.out.2.1.free; have hz0 := HL1.out.1.lt; have hz1 := HL1.out.2.1.lt
  have hz2 : w.heap.size < w1.heap.size := hz0
  go_wp2
  refine bodyPost_ret (v := .agg #[.slice (some ⟨Zm, 0, none⟩) (64 * K) cm, .slice a len cap, .int .i64 (s'.c : Int), .slice ra' s'.n rc', .bool s'.ov, .slice oa' s'.m oc', .int .u64 x.o, .int .u64 x.m, .bool x.sf, .bool x.off, .int .u32 x.code]) (by simp [results, Try.results33, go_sem, r0, r1, r2, r3, r4, r5, r6, r7, r8, r9, r10]) rfl ?_
  have hR1 := refB_of (a := a) (len := len) (cap := cap) (K := K) { x with s := s' } (refB_get HL1.out.2.2.1).1 HX1.out HO1.out
  exact ⟨_, rfl, refB_fin HL1.out.2.2.2 hR1 (barC w.heap.size w1 (.slice a len cap) (.int .i64 (s'.c : Int)) (.slice ra' s'.n rc') (.bool s'.ov) (.slice oa' s'.m oc'))⟩

set_option maxHeartbeats 4000000 in
theorem rstore_mem {S : Nat → Prop} {u : Value} {a : Option Addr} {len cap K : Nat} {x : BS} (b v k : Int) (w : World) (hK : K ≤ 1024) (hn : x.s.n ≤ 16) (hm : x.s.m ≤ 100000) (h : RefB S w u a len cap K x) (hS : ∀ k, S k → k < w.heap.size) (pl nn : Nat) (ha : b = 2147483648 + (pl : Int)) (h1 : 1 ≤ nn) (h4 : nn ≤ 4) (hfit : pl + nn ≤ 64 * K) (hz : askZ K b nn = 0) (hbb : BdB K x.b) (v0 : 0 ≤ v) (v1 : v < 4294967296) :
    Calls Try.prog 33 #[u, .int .u32 b, .int .i64 nn, .int .u32 v, .int .u64 k] w fun e w' => ∃ v', e = .returned v' ∧ RefB S w' v' a len cap K { x with b := bput x.b pl nn (byteAt v) } ∧ Below w.heap.size w w' := by
  have a0 : 0 ≤ b := by omega
  have a1 : b < 4294967296 := by omega
  have hcl : classZ K b nn = 1 := classZ_mem hz
  have hS1 : ∀ k, S k → k < w.heap.size := hS
  obtain ⟨mv, rx, out, rfl, h0, hx, ho⟩ := id h
  obtain ⟨ra, rc, rfl⟩ := hx.form
  obtain ⟨oa, oc, rfl⟩ := ho.form
  obtain ⟨hb1, hb2, hB0, hsz⟩ := two_boxB w mv (.slice a len cap) (.int .i64 (x.s.c : Int)) (.slice ra x.s.n rc) (.bool x.s.ov) (.slice oa x.s.m oc) (.int .u64 x.o) (.int .u64 x.m) (.bool x.sf) (.bool x.off) (.int .u32 x.code)
  obtain ⟨W0, hW0⟩ : ∃ W0, W0 = (w.alloc (.cells #[mv, .slice a len cap, .int .i64 (x.s.c : Int), .slice ra x.s.n rc, .bool x.s.ov, .slice oa x.s.m oc, .int .u64 x.o, .int .u64 x.m, .bool x.sf, .bool x.off, .int .u32 x.code] 39)).alloc zeroB := ⟨_, rfl⟩
  rw [← hW0] at hb1 hb2 hB0 hsz
  have HW0 := Lib.hid hW0
  have HR0 := Lib.hid (h.two hB0)
  have HB0 := Lib.hid hB0
  have HX0 := Lib.hid hb1
  have HY0 := Lib.hid hb2
  have HSZ := Lib.hid hsz
  have HS : Hid (∀ k, S2 S w k → k < W0.heap.size) := fun k hk => by
    rcases hk with e | e | e
    · have := hS k e; omega
    · omega
    · omega
  have HL0 : Hid (LdW S w (.agg #[mv, .slice a len cap, .int .i64 (x.s.c : Int), .slice ra x.s.n rc, .bool x.s.ov, .slice oa x.s.m oc, .int .u64 x.o, .int .u64 x.m, .bool x.sf, .bool x.off, .int .u32 x.code]) a len cap K x mv (.slice a len cap) (.int .i64 (x.s.c : Int)) (.slice ra x.s.n rc) (.bool x.s.ov) (.slice oa x.s.m oc) (.int .u64 x.o) (.int .u64 x.m) (.bool x.sf) (.bool x.off) (.int .u32 x.code) W0) := ⟨hb1, hb2, h.two hB0, hB0⟩
  obtain ⟨Zm, cm, rfl, hcm, hSm, hlm, hrow⟩ := h0
  have HC : Hid (∀ W : World, Calls Try.prog 15 #[.slice (some ⟨Zm, 0, none⟩) (64 * K) cm, .int .u32 b, .int .i64 nn] W fun e w' => e = .returned (.int .i64 1) ∧ w' = W) := fun W => by
    have := rclass14_any K (some ⟨Zm, 0, none⟩) cm b nn W hK a0 a1
    rwa [hcl] at this
  have HM : Hid (64 * K ≤ cm) := hcm
  have HH : Hid (x.s.n ≤ 16 ∧ x.s.m ≤ 100000) := ⟨hn, hm⟩
  clear hW0 h hx ho hb1 hb2 hB0 hsz hS hSm hlm hrow hcm hn hm hcl
  obtain ⟨p0, p1, p2, p3, p4, p5, p6, p7, p8, p9, p10⟩ := HX0.out.cells
  obtain ⟨f0, f1, f2, f3, f4, f5, f6, f7, f8, f9, f10⟩ := HX0.out.free
  obtain ⟨r0, r1, r2, r3, r4, r5, r6, r7, r8, r9, r10⟩ := HY0.out.cells
  obtain ⟨y0, y1, y2, y3, y4, y5, y6, y7, y8, y9, y10⟩ := HY0.out.free
  have HBY : Hid (∀ W : World, LdW S w (.agg #[.slice (some ⟨Zm, 0, none⟩) (64 * K) cm, .slice a len cap, .int .i64 (x.s.c : Int), .slice ra x.s.n rc, .bool x.s.ov, .slice oa x.s.m oc, .int .u64 x.o, .int .u64 x.m, .bool x.sf, .bool x.off, .int .u32 x.code]) a len cap K x (.slice (some ⟨Zm, 0, none⟩) (64 * K) cm) (.slice a len cap) (.int .i64 (x.s.c : Int)) (.slice ra x.s.n rc) (.bool x.s.ov) (.slice oa x.s.m oc) (.int .u64 x.o) (.int .u64 x.m) (.bool x.sf) (.bool x.off) (.int .u32 x.code) W → Calls Try.prog 56 #[.int .u32 v, .int .i64 nn] W fun e w' => ∃ xb xc, e = .returned (.slice (some ⟨xb, 0, none⟩) nn xc) ∧ RowB w' xb nn (byteAt v) ∧ LdW S w (.agg #[.slice (some ⟨Zm, 0, none⟩) (64 * K) cm, .slice a len cap, .int .i64 (x.s.c : Int), .slice ra x.s.n rc, .bool x.s.ov, .slice oa x.s.m oc, .int .u64 x.o, .int .u64 x.m, .bool x.sf, .bool x.off, .int .u32 x.code]) a len cap K x (.slice (some ⟨Zm, 0, none⟩) (64 * K) cm) (.slice a len cap) (.int .i64 (x.s.c : Int)) (.slice ra x.s.n rc) (.bool x.s.ov) (.slice oa x.s.m oc) (.int .u64 x.o) (.int .u64 x.m) (.bool x.sf) (.bool x.off) (.int .u32 x.code) w') := fun W hW => by
    refine (rbytes_any v nn W v0 v1 h4).mono ?_
    rintro e w' ⟨u, rfl, hown, hb⟩
    rw [bytesTo_range] at hown
    obtain ⟨xb, xc, rfl, -, -, hrow⟩ := row_of_own hown h1
    exact ⟨xb, xc, rfl, hrow, hW.on hb⟩
  have HPUT : Hid (∀ W : World, ∀ xb xc, LdW S w (.agg #[.slice (some ⟨Zm, 0, none⟩) (64 * K) cm, .slice a len cap, .int .i64 (x.s.c : Int), .slice ra x.s.n rc, .bool x.s.ov, .slice oa x.s.m oc, .int .u64 x.o, .int .u64 x.m, .bool x.sf, .bool x.off, .int .u32 x.code]) a len cap K x (.slice (some ⟨Zm, 0, none⟩) (64 * K) cm) (.slice a len cap) (.int .i64 (x.s.c : Int)) (.slice ra x.s.n rc) (.bool x.s.ov) (.slice oa x.s.m oc) (.int .u64 x.o) (.int .u64 x.m) (.bool x.sf) (.bool x.off) (.int .u32 x.code) W → RowB W xb nn (byteAt v) → Calls Try.prog 55 #[.slice (some ⟨Zm, 0, none⟩) (64 * K) cm, .int .u32 b, .slice (some ⟨xb, 0, none⟩) nn xc] W fun e w' => ∃ B' c', e = .returned (.slice (some ⟨B', 0, none⟩) (64 * K) c') ∧ RowV (S2 S w) w' (.slice (some ⟨B', 0, none⟩) (64 * K) c') K (bput x.b pl nn (byteAt v)) ∧ LdW S w (.agg #[.slice (some ⟨Zm, 0, none⟩) (64 * K) cm, .slice a len cap, .int .i64 (x.s.c : Int), .slice ra x.s.n rc, .bool x.s.ov, .slice oa x.s.m oc, .int .u64 x.o, .int .u64 x.m, .bool x.sf, .bool x.off, .int .u32 x.code]) a len cap K x (.slice (some ⟨Zm, 0, none⟩) (64 * K) cm) (.slice a len cap) (.int .i64 (x.s.c : Int)) (.slice ra x.s.n rc) (.bool x.s.ov) (.slice oa x.s.m oc) (.int .u64 x.o) (.int .u64 x.m) (.bool x.sf) (.bool x.off) (.int .u32 x.code) w') := fun W xb xc hW hsrc => by
    obtain ⟨Z', cz, e, hc', -, -, hrow⟩ := (refB_get hW.2.2.1).1
    simp at e
    obtain ⟨rfl, rfl⟩ := e
    refine (rput10_any K pl b Zm cm xb 0 nn xc x.b (byteAt v) W hK hrow ha h1 hfit hc' (fun i hi => by rw [Nat.zero_add]; exact hsrc i hi)).mono ?_
    rintro e w' ⟨B', c', rfl, ⟨h5, h6, h7⟩, hb⟩
    exact ⟨B', c', rfl, ⟨B', c', rfl, h5, fun e => by have := hW.own hS1 B' e; omega, World.block_lt_of_cell? w' _ (h7 0 (by omega)), h7⟩, hW.on hb⟩
  clear a0 a1 ha h1 h4 hfit hz hbb hS1
  generalize bput x.b pl nn (byteAt v) = b' at HPUT ⊢
  go_enter Try.func33, Try.ntmps33
  go_wp2_with fail
  rw [← HW0.out]
  go_wp2_with fail
  refine (HC.out W0).mono ?_
  rintro e w' ⟨rfl, hw⟩
  have hw := hw.symm
  subst hw
  go_wp2_with fail
  go_region_with (first
    | (go_at_call 56; refine (HBY.out _ (show LdW S w (.agg #[.slice (some ⟨Zm, 0, none⟩) (64 * K) cm, .slice a len cap, .int .i64 (x.s.c : Int), .slice ra x.s.n rc, .bool x.s.ov, .slice oa x.s.m oc, .int .u64 x.o, .int .u64 x.m, .bool x.sf, .bool x.off, .int .u32 x.code]) a len cap K x (.slice (some ⟨Zm, 0, none⟩) (64 * K) cm) (.slice a len cap) (.int .i64 (x.s.c : Int)) (.slice ra x.s.n rc) (.bool x.s.ov) (.slice oa x.s.m oc) (.int .u64 x.o) (.int .u64 x.m) (.bool x.sf) (.bool x.off) (.int .u32 x.code) _ from (by first | exact HL0.out | exact HL0.out.on ((Below.refl _ _).drew)))).mono ?_; rintro e w1 ⟨xb, xc, rfl, hsrc, hl⟩; have HSRC := Lib.hid hsrc; have HL1 := Lib.hid hl; obtain ⟨p0, p1, p2, p3, p4, p5, p6, p7, p8, p9, p10⟩ := HL1.out.1.cells; obtain ⟨f0, f1, f2, f3, f4, f5, f6, f7, f8, f9, f10⟩ := HL1.out.1.free; obtain ⟨r0, r1, r2, r3, r4, r5, r6, r7, r8, r9, r10⟩ := HL1.out.2.1.cells; obtain ⟨y0, y1, y2, y3, y4, y5, y6, y7, y8, y9, y10⟩ := HL1.out.2.1.free; have hz0 := HL1.out.1.lt; have hz1 := HL1.out.2.1.lt; clear hl hsrc)
    | (go_at_call 55; refine (HPUT.out _ _ _ HL1.out HSRC.out).mono ?_; rintro e w2 ⟨B', c', rfl, hrw, hl⟩; have HRW := Lib.hid hrw; have HL2 := Lib.hid hl; obtain ⟨p0, p1, p2, p3, p4, p5, p6, p7, p8, p9, p10⟩ := HL2.out.1.cells; obtain ⟨f0, f1, f2, f3, f4, f5, f6, f7, f8, f9, f10⟩ := HL2.out.1.free; obtain ⟨r0, r1, r2, r3, r4, r5, r6, r7, r8, r9, r10⟩ := HL2.out.2.1.cells; obtain ⟨y0, y1, y2, y3, y4, y5, y6, y7, y8, y9, y10⟩ := HL2.out.2.1.free; have hz0 := HL2.out.1.lt; have hz1 := HL2.out.2.1.lt; clear hl hrw))
  all_goals go_wp2
  all_goals refine bodyPost_ret (v := .agg #[.slice (some ⟨B', 0, none⟩) (64 * K) c', .slice a len cap, .int .i64 (x.s.c : Int), .slice ra x.s.n rc, .bool x.s.ov, .slice oa x.s.m oc, .int .u64 x.o, .int .u64 x.m, .bool x.sf, .bool x.off, .int .u32 x.code]) (by simp [results, Try.results33, go_sem, r0, r1, r2, r3, r4, r5, r6, r7, r8, r9, r10]) rfl ?_
  all_goals obtain ⟨g0, g1, g2⟩ := refB_get HL2.out.2.2.1
  all_goals exact ⟨_, rfl, refB_fin HL2.out.2.2.2 (refB_of (a := a) (len := len) (cap := cap) (K := K) { x with b := b' } HRW.out g1 g2) (Bar.setCell w.heap.size 0 w2 (.slice (some ⟨B', 0, none⟩) (64 * K) c'))⟩
end Go.Proofs.Ytkbccccjjlkgbaa

/- Layer 14: the document's Load and Store, of whatever access that there is. -/
namespace Go.Proofs.Ytkbccccjjlkgbaa
open Go.RowKit
set_option linter.unusedVariables false
set_option linter.unusedSimpArgs false
set_option maxRecDepth 100000

theorem rload14_yes {S : Nat → Prop} {u : Value} {a : Option Addr} {len cap K c : Nat} {x : BS} (b n k : Int) (w : World) (hK : K ≤ 1024) (hn : x.s.n ≤ 16) (hm : x.s.m ≤ 100000) (h : RefB S w u a len cap K x) (hS : ∀ k, S k → k < w.heap.size) (hok : BsOk K x c) (a0 : 0 ≤ b) (a1 : b < 4294967296) (hz : ask14 K b n = 0) :
    Calls Try.prog 32 #[u, .int .u32 b, .int .i64 n, .int .u64 k] w fun e w' => ∃ v', e = .returned (.tuple #[v', .int .u32 (x.ldV K b n k)]) ∧ RefB S w' v' a len cap K (x.ldS K b n) ∧ Below w.heap.size w w' := by
  rcases ask14_zero hz with hz | hz
  · obtain ⟨h1, h2, h3, h4, h5, h6, h7, h8, h9⟩ := pl_of hz
    rw [BS.ldV_mem hz, BS.ldS_mem hz]
    have := rload_mem b k w hK hn hm h hS (plZ b) n.toNat h4 h8 h9 h6 (by rw [h5]; exact hz) hok.1
    rwa [h5] at this
  · obtain ⟨rfl, hd⟩ := isDev_yes hz
    rcases devB_yes hd with rfl | hd | hd
    · obtain ⟨e1, e2, -⟩ := BS.ld_port (x := x) (K := K) (v := 0) (k := k)
      rw [e1, e2]
      exact rload_port k w hK hn hm h hS
    · obtain ⟨e1, e2, -⟩ := BS.ld_con (x := x) (K := K) (v := 0) (k := k) hd
      rw [e1, e2]
      rcases hd with rfl | rfl
      · exact rload_con0 k w hK hn hm h hS
      · exact rload_con4 k w hK hn hm h hS
    · obtain ⟨e1, e2, -⟩ := BS.ld_tim (x := x) (K := K) (v := 0) (k := k) hd
      rw [e1, e2]
      exact rload_tim b k w hK hn hm h hS a0 a1 hd hok.2.2.1.1 hok.2.2.1.2

theorem rstore14_yes {S : Nat → Prop} {u : Value} {a : Option Addr} {len cap K c : Nat} {x : BS} (b n v k : Int) (w : World) (hK : K ≤ 1024) (hn : x.s.n ≤ 16) (hm : x.s.m ≤ 100000) (h : RefB S w u a len cap K x) (hS : ∀ k, S k → k < w.heap.size) (hok : BsOk K x c) (a0 : 0 ≤ b) (a1 : b < 4294967296) (v0 : 0 ≤ v) (v1 : v < 4294967296) (hz : ask14 K b n = 0) :
    Calls Try.prog 33 #[u, .int .u32 b, .int .i64 n, .int .u32 v, .int .u64 k] w fun e w' => ∃ v', e = .returned v' ∧ RefB S w' v' a len cap K (x.st K b n v k) ∧ Below w.heap.size w w' := by
  rcases ask14_zero hz with hz | hz
  · obtain ⟨h1, h2, h3, h4, h5, h6, h7, h8, h9⟩ := pl_of hz
    rw [BS.st_mem hz]
    have := rstore_mem b v k w hK hn hm h hS (plZ b) n.toNat h4 h8 h9 h6 (by rw [h5]; exact hz) hok.1 v0 v1
    rw [h5] at this
    exact this
  · obtain ⟨rfl, hd⟩ := isDev_yes hz
    rcases devB_yes hd with rfl | hd | hd
    · rw [(BS.ld_port (x := x) (K := K) (v := v) (k := k)).2.2]
      exact rstore_port v k w hK hn hm h hS v0 v1
    · rw [(BS.ld_con (x := x) (K := K) (v := v) (k := k) hd).2.2]
      rcases hd with rfl | rfl
      · exact rstore_con0 v k w hK hn hm h hS v0 v1
      · exact rstore_con4 v k w hK hn hm h hS v0 v1
    · rw [(BS.ld_tim (x := x) (K := K) (v := v) (k := k) hd).2.2]
      exact rstore_tim b v k w hK hn hm h hS a0 a1 v0 v1 hd hok.2.2.1.1 hok.2.2.1.2
end Go.Proofs.Ytkbccccjjlkgbaa

/- Layer 14: a load, done by both. (By gen-busstep.py.) -/
namespace Go.Proofs.Ytkbccccjjlkgbaa
open Go.RowKit
set_option linter.unusedVariables false
set_option linter.unusedSimpArgs false
set_option maxRecDepth 100000

set_option maxHeartbeats 8000000 in
theorem step14_1ok {B R P C A K : Nat} {S : Nat → Prop} {T Y : Nat → Int} {x : BS} {u : Value} {a : Option Addr} {len cap : Nat} (c : Nat) (ad n v t : Int) (w : World) (hK : K ≤ 1024) (hc : c ≤ 1000) (a0 : 0 ≤ ad) (a1 : ad < 4294967296) (v0 : 0 ≤ v) (v1 : v < 4294967296) (hok : BsOk K x c) (hnw : NoW x) (hi : IsBus w B R P C A K S len T Y x) (h : RefB (Fp B R P A S) w u a len cap K x) (hz : ask14 K ad n = 0) :
    Calls Try.prog 12 #[.pointer (some ⟨B, 0, none⟩), u, .agg #[.int .i64 1, .int .u32 ad, .int .i64 n, .int .u32 v, .int .u64 t]] w fun e w' => ∃ v', e = .returned (.tuple #[v', .bool true]) ∧ StepOut14 w B R P C A K S a len cap T Y c v' w' := by
  obtain ⟨mv, rx, out, rfl, h0, hx, ho⟩ := id h
  obtain ⟨Zm, cm, rfl, -, -, -, -⟩ := id h0
  obtain ⟨ra, rc, rfl⟩ := hx.form
  obtain ⟨oa, oc, rfl⟩ := ho.form
  obtain ⟨hS0, hB0, hsz⟩ := st14_start w (.slice (some ⟨Zm, 0, none⟩) (64 * K) cm) (.slice a len cap) (.int .i64 (x.s.c : Int)) (.slice ra x.s.n rc) (.bool x.s.ov) (.slice oa x.s.m oc) (.int .u64 x.o) (.int .u64 x.m) (.bool x.sf) (.bool x.off) (.int .u32 x.code) (.int .i64 1) (.int .u32 ad) (.int .i64 n) (.int .u32 v) (.int .u64 t)
  obtain ⟨W0, hW0⟩ : ∃ W0, W0 = (((w.alloc (.cells #[.slice (some ⟨Zm, 0, none⟩) (64 * K) cm, .slice a len cap, .int .i64 (x.s.c : Int), .slice ra x.s.n rc, .bool x.s.ov, .slice oa x.s.m oc, .int .u64 x.o, .int .u64 x.m, .bool x.sf, .bool x.off, .int .u32 x.code] 39)).alloc (.cells #[.int .i64 1, .int .u32 ad, .int .i64 n, .int .u32 v, .int .u64 t] 43)).alloc zeroB) := ⟨_, rfl⟩
  rw [← hW0] at hS0 hB0 hsz
  have HW0 := Lib.hid hW0
  have HI0 := Lib.hid (hi.on hB0)
  have HLT := Lib.hid hi.lt
  have HLE := Lib.hid hi.2.2.1.le
  have HR0 := Lib.hid (h.sq hB0)
  have HX0 := Lib.hid hS0
  have HF0 : Hid (Fr (Fp B R P A S) w W0) := Fr.of _ hB0
  have HSZ := Lib.hid hsz
  have HB0 := Lib.hid hB0
  have HOK := Lib.hid (And.intro hok hnw)
  have HSM : Hid (x.s.m ≤ 100000) := by have := hok.2.2.2; show x.s.m ≤ 100000; omega
  have HASK : Hid (∀ W : World, Calls Try.prog 31 #[.slice (some ⟨Zm, 0, none⟩) (64 * K) cm, .int .u32 ad, .int .i64 n] W fun e w' => e = .returned (.int .i64 (ask14 K ad n)) ∧ w' = W) := fun W => rask14_any K _ _ ad n W hK a0 a1
  rw [hz] at HASK
  have HG : Hid (∃ (q : Int) (x' : BS), (BsOk K x' (c + 1) ∧ NoW x') ∧ (∀ W, IsBus W B R P C A K S len T Y x → Calls Try.prog 21 #[.pointer (some ⟨B, 0, none⟩), .int .u32 ad, .int .i64 n, .int .u64 t] W fun e w' => e = .returned (.tuple #[.int .u32 q, .int .i64 0]) ∧ IsBus w' B R P C A K S len T Y x' ∧ Fr (Fp B R P A S) W w') ∧
      (∀ W, RefB (SQ (Fp B R P A S) w) W (.agg #[.slice (some ⟨Zm, 0, none⟩) (64 * K) cm, .slice a len cap, .int .i64 (x.s.c : Int), .slice ra x.s.n rc, .bool x.s.ov, .slice oa x.s.m oc, .int .u64 x.o, .int .u64 x.m, .bool x.sf, .bool x.off, .int .u32 x.code]) a len cap K x → (∀ k, SQ (Fp B R P A S) w k → k < W.heap.size) → Calls Try.prog 32 #[.agg #[.slice (some ⟨Zm, 0, none⟩) (64 * K) cm, .slice a len cap, .int .i64 (x.s.c : Int), .slice ra x.s.n rc, .bool x.s.ov, .slice oa x.s.m oc, .int .u64 x.o, .int .u64 x.m, .bool x.sf, .bool x.off, .int .u32 x.code], .int .u32 ad, .int .i64 n, .int .u64 t] W fun e w' => ∃ Zm' cm' ra' rc' oa' oc', e = .returned (.tuple #[.agg #[.slice (some ⟨Zm', 0, none⟩) (64 * K) cm', .slice a len cap, .int .i64 (x'.s.c : Int), .slice ra' x'.s.n rc', .bool x'.s.ov, .slice oa' x'.s.m oc', .int .u64 x'.o, .int .u64 x'.m, .bool x'.sf, .bool x'.off, .int .u32 x'.code], .int .u32 q]) ∧ RefB (SQ (Fp B R P A S) w) w' (.agg #[.slice (some ⟨Zm', 0, none⟩) (64 * K) cm', .slice a len cap, .int .i64 (x'.s.c : Int), .slice ra' x'.s.n rc', .bool x'.s.ov, .slice oa' x'.s.m oc', .int .u64 x'.o, .int .u64 x'.m, .bool x'.sf, .bool x'.off, .int .u32 x'.code]) a len cap K x' ∧ Below W.heap.size W w')) := by
    refine ⟨x.ldV K ad n t, x.ldS K ad n, ⟨hok.ld, hnw.ld⟩, fun W hW => bload_yes ad n t W hK hW c hok (by omega) a0 a1 hz, fun W hr hs => ?_⟩
    refine (rload14_yes ad n t W hK HLE.out.2.2 HSM.out hr hs hok a0 a1 hz).mono ?_
    rintro e w' ⟨v', rfl, h1, h2⟩
    obtain ⟨mv', rx', out', rfl, h0', hx', ho'⟩ := id h1
    obtain ⟨Zm', cm', rfl, -, -, -, -⟩ := id h0'
    obtain ⟨ra', rc', rfl⟩ := hx'.form
    obtain ⟨oa', oc', rfl⟩ := ho'.form
    exact ⟨Zm', cm', ra', rc', oa', oc', rfl, h1, h2⟩
  clear hW0 h h0 hx ho hS0 hB0 hsz hi hok hnw a0 a1 v0 v1 hz
  obtain ⟨q, x', hok', hld, hrl⟩ := HG.out
  have HOK' := Lib.hid hok'
  have HLD := Lib.hid hld
  have HRL := Lib.hid hrl
  clear hok' hld hrl HG HOK
  obtain ⟨p0, p1, p2, p3, p4, p5, p6, p7, p8, p9, p10⟩ := HX0.out.1.cells
  obtain ⟨f0, f1, f2, f3, f4, f5, f6, f7, f8, f9, f10⟩ := HX0.out.1.free
  obtain ⟨⟨s0, s1, s2, s3, s4⟩, -⟩ := five_cells HX0.out.2.1
  obtain ⟨r0, r1, r2, r3, r4, r5, r6, r7, r8, r9, r10⟩ := HX0.out.2.2.cells
  obtain ⟨y0, y1, y2, y3, y4, y5, y6, y7, y8, y9, y10⟩ := HX0.out.2.2.free
  have hz0 := HX0.out.1.lt
  have hz2 := HX0.out.2.2.lt
  go_enter Try.func12, Try.ntmps12
  go_wp2_with fail
  rw [← HW0.out]
  go_wp2_with fail
  refine (HASK.out W0).mono ?_
  rintro e w' ⟨rfl, hw⟩
  have hw := hw.symm
  subst hw
  go_wp2_with fail
  refine (HLD.out W0 HI0.out).mono ?_
  rintro e w1 ⟨rfl, hi1, hf1⟩
  have HI1 := Lib.hid hi1
  have HF1 : Hid (Fr (Fp B R P A S) w w1) := HF0.out.trans hf1
  have HX1 := Lib.hid (HX0.out.fr hf1 HLT.out)
  have HR1 := Lib.hid (HR0.out.step (hf1.mono14 (fun k h => .inl h)) (Ext.refl _ _))
  clear hi1 hf1 p0 p1 p2 p3 p4 p5 p6 p7 p8 p9 p10 f0 f1 f2 f3 f4 f5 f6 f7 f8 f9 f10 r0 r1 r2 r3 r4 r5 r6 r7 r8 r9 r10 y0 y1 y2 y3 y4 y5 y6 y7 y8 y9 y10 s0 s1 s2 s3 s4 hz0 hz2
  obtain ⟨p0, p1, p2, p3, p4, p5, p6, p7, p8, p9, p10⟩ := HX1.out.1.cells
  obtain ⟨f0, f1, f2, f3, f4, f5, f6, f7, f8, f9, f10⟩ := HX1.out.1.free
  obtain ⟨⟨s0, s1, s2, s3, s4⟩, -⟩ := five_cells HX1.out.2.1
  obtain ⟨r0, r1, r2, r3, r4, r5, r6, r7, r8, r9, r10⟩ := HX1.out.2.2.cells
  obtain ⟨y0, y1, y2, y3, y4, y5, y6, y7, y8, y9, y10⟩ := HX1.out.2.2.free
  have hz0 := HX1.out.1.lt
  have hz2 := HX1.out.2.2.lt
  go_wp2_with fail
  refine (HRL.out w1 HR1.out (SQ.lt HX1.out HI1.out.lt)).mono ?_
  rintro e w2 ⟨Zm', cm', ra', rc', oa', oc', rfl, hr2, hb2⟩
  have hb3 : Below w2.heap.size w2 (w2.alloc (.cells #[.slice (some ⟨Zm', 0, none⟩) (64 * K) cm', .slice a len cap, .int .i64 (x'.s.c : Int), .slice ra' x'.s.n rc', .bool x'.s.ov, .slice oa' x'.s.m oc', .int .u64 x'.o, .int .u64 x'.m, .bool x'.sf, .bool x'.off, .int .u32 x'.code] 39)) := (Below.refl _ _).alloc (Nat.le_refl _) _
  have HI3 := Lib.hid ((HI1.out.on hb2).on hb3)
  have HF3 : Hid (Fr (Fp B R P A S) w (w2.alloc (.cells #[.slice (some ⟨Zm', 0, none⟩) (64 * K) cm', .slice a len cap, .int .i64 (x'.s.c : Int), .slice ra' x'.s.n rc', .bool x'.s.ov, .slice oa' x'.s.m oc', .int .u64 x'.o, .int .u64 x'.m, .bool x'.sf, .bool x'.off, .int .u32 x'.code] 39))) := (HF1.out.trans (Fr.of _ hb2)).trans (Fr.of _ hb3)
  have HX2 := Lib.hid (HX1.out.on hb2)
  have HX3 := Lib.hid (HX2.out.on hb3)
  have HR3 := Lib.hid (hr2.on hb3)
  have HN3 := Lib.hid (heap_alloc_new w2 (.cells #[.slice (some ⟨Zm', 0, none⟩) (64 * K) cm', .slice a len cap, .int .i64 (x'.s.c : Int), .slice ra' x'.s.n rc', .bool x'.s.ov, .slice oa' x'.s.m oc', .int .u64 x'.o, .int .u64 x'.m, .bool x'.sf, .bool x'.off, .int .u32 x'.code] 39))
  clear hr2 hb2 hb3 p0 p1 p2 p3 p4 p5 p6 p7 p8 p9 p10 f0 f1 f2 f3 f4 f5 f6 f7 f8 f9 f10 r0 r1 r2 r3 r4 r5 r6 r7 r8 r9 r10 y0 y1 y2 y3 y4 y5 y6 y7 y8 y9 y10 s0 s1 s2 s3 s4 hz0 hz2
  obtain ⟨p0, p1, p2, p3, p4, p5, p6, p7, p8, p9, p10⟩ := HX2.out.1.cells
  obtain ⟨f0, f1, f2, f3, f4, f5, f6, f7, f8, f9, f10⟩ := HX2.out.1.free
  obtain ⟨⟨s0, s1, s2, s3, s4⟩, -⟩ := five_cells HX2.out.2.1
  obtain ⟨r0, r1, r2, r3, r4, r5, r6, r7, r8, r9, r10⟩ := HX2.out.2.2.cells
  obtain ⟨y0, y1, y2, y3, y4, y5, y6, y7, y8, y9, y10⟩ := HX2.out.2.2.free
  have hz0 := HX2.out.1.lt
  have hz2 := HX2.out.2.2.lt
  go_wp2_with (refine wpList_load_row rfl 39 (.tmp 11) rfl w2.heap.size 39 rfl _ _ HN3.out Try.underlying39 rfl (by kernel_rfl) ?_; clear p0 p1 p2 p3 p4 p5 p6 p7 p8 p9 p10 f0 f1 f2 f3 f4 f5 f6 f7 f8 f9 f10 r0 r1 r2 r3 r4 r5 r6 r7 r8 r9 r10 y0 y1 y2 y3 y4 y5 y6 y7 y8 y9 y10 s0 s1 s2 s3 s4 hz0 hz2 HN3 HX2; generalize w2.alloc (.cells #[.slice (some ⟨Zm', 0, none⟩) (64 * K) cm', .slice a len cap, .int .i64 (x'.s.c : Int), .slice ra' x'.s.n rc', .bool x'.s.ov, .slice oa' x'.s.m oc', .int .u64 x'.o, .int .u64 x'.m, .bool x'.sf, .bool x'.off, .int .u32 x'.code] 39) = w3 at *; obtain ⟨p0, p1, p2, p3, p4, p5, p6, p7, p8, p9, p10⟩ := HX3.out.1.cells; obtain ⟨f0, f1, f2, f3, f4, f5, f6, f7, f8, f9, f10⟩ := HX3.out.1.free; obtain ⟨⟨s0, s1, s2, s3, s4⟩, -⟩ := five_cells HX3.out.2.1; obtain ⟨r0, r1, r2, r3, r4, r5, r6, r7, r8, r9, r10⟩ := HX3.out.2.2.cells; obtain ⟨y0, y1, y2, y3, y4, y5, y6, y7, y8, y9, y10⟩ := HX3.out.2.2.free; have hz0 := HX3.out.1.lt; have hz2 := HX3.out.2.2.lt)
  refine bodyPost_ret (v := .tuple #[.agg #[.slice (some ⟨Zm', 0, none⟩) (64 * K) cm', .slice a len cap, .int .i64 (x'.s.c : Int), .slice ra' x'.s.n rc', .bool x'.s.ov, .slice oa' x'.s.m oc', .int .u64 x'.o, .int .u64 x'.m, .bool x'.sf, .bool x'.off, .int .u32 x'.code], .bool true]) (by simp [results, Try.results12, go_sem, r0, r1, r2, r3, r4, r5, r6, r7, r8, r9, r10]) rfl ⟨_, rfl, step14_fin HI3.out HR3.out HOK'.out HF3.out (fun k hk => .inl hk) HLT.out (Bar.refl _ w3)⟩

set_option maxHeartbeats 8000000 in
theorem step14_1no {B R P C A K : Nat} {S : Nat → Prop} {T Y : Nat → Int} {x : BS} {u : Value} {a : Option Addr} {len cap : Nat} (c : Nat) (ad n v t : Int) (w : World) (hK : K ≤ 1024) (hc : c ≤ 1000) (a0 : 0 ≤ ad) (a1 : ad < 4294967296) (v0 : 0 ≤ v) (v1 : v < 4294967296) (hok : BsOk K x c) (hnw : NoW x) (hi : IsBus w B R P C A K S len T Y x) (h : RefB (Fp B R P A S) w u a len cap K x) (hz : ask14 K ad n ≠ 0) :
    Calls Try.prog 12 #[.pointer (some ⟨B, 0, none⟩), u, .agg #[.int .i64 1, .int .u32 ad, .int .i64 n, .int .u32 v, .int .u64 t]] w fun e w' => ∃ v', e = .returned (.tuple #[v', .bool true]) ∧ StepOut14 w B R P C A K S a len cap T Y c v' w' := by
  obtain ⟨mv, rx, out, rfl, h0, hx, ho⟩ := id h
  obtain ⟨Zm, cm, rfl, -, -, -, -⟩ := id h0
  obtain ⟨ra, rc, rfl⟩ := hx.form
  obtain ⟨oa, oc, rfl⟩ := ho.form
  obtain ⟨hS0, hB0, hsz⟩ := st14_start w (.slice (some ⟨Zm, 0, none⟩) (64 * K) cm) (.slice a len cap) (.int .i64 (x.s.c : Int)) (.slice ra x.s.n rc) (.bool x.s.ov) (.slice oa x.s.m oc) (.int .u64 x.o) (.int .u64 x.m) (.bool x.sf) (.bool x.off) (.int .u32 x.code) (.int .i64 1) (.int .u32 ad) (.int .i64 n) (.int .u32 v) (.int .u64 t)
  obtain ⟨W0, hW0⟩ : ∃ W0, W0 = (((w.alloc (.cells #[.slice (some ⟨Zm, 0, none⟩) (64 * K) cm, .slice a len cap, .int .i64 (x.s.c : Int), .slice ra x.s.n rc, .bool x.s.ov, .slice oa x.s.m oc, .int .u64 x.o, .int .u64 x.m, .bool x.sf, .bool x.off, .int .u32 x.code] 39)).alloc (.cells #[.int .i64 1, .int .u32 ad, .int .i64 n, .int .u32 v, .int .u64 t] 43)).alloc zeroB) := ⟨_, rfl⟩
  rw [← hW0] at hS0 hB0 hsz
  have HW0 := Lib.hid hW0
  have HI0 := Lib.hid (hi.on hB0)
  have HLT := Lib.hid hi.lt
  have HLE := Lib.hid hi.2.2.1.le
  have HR0 := Lib.hid (h.sq hB0)
  have HX0 := Lib.hid hS0
  have HF0 : Hid (Fr (Fp B R P A S) w W0) := Fr.of _ hB0
  have HSZ := Lib.hid hsz
  have HB0 := Lib.hid hB0
  have HOK := Lib.hid (And.intro hok hnw)
  have HSM : Hid (x.s.m ≤ 100000) := by have := hok.2.2.2; show x.s.m ≤ 100000; omega
  have HASK : Hid (∀ W : World, Calls Try.prog 31 #[.slice (some ⟨Zm, 0, none⟩) (64 * K) cm, .int .u32 ad, .int .i64 n] W fun e w' => e = .returned (.int .i64 (ask14 K ad n)) ∧ w' = W) := fun W => rask14_any K _ _ ad n W hK a0 a1
  have HLD : Hid (∀ W, IsBus W B R P C A K S len T Y x → Calls Try.prog 21 #[.pointer (some ⟨B, 0, none⟩), .int .u32 ad, .int .i64 n, .int .u64 t] W fun e w' => e = .returned (.tuple #[.int .u32 0, .int .i64 (ask14 K ad n)]) ∧ IsBus w' B R P C A K S len T Y x ∧ Fr (Fp B R P A S) W w') := fun W hW => bload_no ad n t W hK hW c hok (by omega) a0 a1 hz
  have hz' : (ask14 K ad n != 0) = true := bne_iff_ne.2 hz
  clear hW0 h h0 hx ho hS0 hB0 hsz hi hok hnw a0 a1 v0 v1 hz
  generalize ask14 K ad n = z at *
  obtain ⟨p0, p1, p2, p3, p4, p5, p6, p7, p8, p9, p10⟩ := HX0.out.1.cells
  obtain ⟨f0, f1, f2, f3, f4, f5, f6, f7, f8, f9, f10⟩ := HX0.out.1.free
  obtain ⟨⟨s0, s1, s2, s3, s4⟩, -⟩ := five_cells HX0.out.2.1
  obtain ⟨r0, r1, r2, r3, r4, r5, r6, r7, r8, r9, r10⟩ := HX0.out.2.2.cells
  obtain ⟨y0, y1, y2, y3, y4, y5, y6, y7, y8, y9, y10⟩ := HX0.out.2.2.free
  have hz0 := HX0.out.1.lt
  have hz2 := HX0.out.2.2.lt
  go_enter Try.func12, Try.ntmps12
  go_wp2_with fail
  rw [← HW0.out]
  go_wp2_with fail
  refine (HASK.out W0).mono ?_
  rintro e w' ⟨rfl, hw⟩
  have hw := hw.symm
  subst hw
  go_wp2_with fail
  refine (HLD.out W0 HI0.out).mono ?_
  rintro e w1 ⟨rfl, hi1, hf1⟩
  have HI1 := Lib.hid hi1
  have HF1 : Hid (Fr (Fp B R P A S) w w1) := HF0.out.trans hf1
  have HX1 := Lib.hid (HX0.out.fr hf1 HLT.out)
  have HR1 := Lib.hid (HR0.out.step (hf1.mono14 (fun k h => .inl h)) (Ext.refl _ _))
  clear hi1 hf1 p0 p1 p2 p3 p4 p5 p6 p7 p8 p9 p10 f0 f1 f2 f3 f4 f5 f6 f7 f8 f9 f10 r0 r1 r2 r3 r4 r5 r6 r7 r8 r9 r10 y0 y1 y2 y3 y4 y5 y6 y7 y8 y9 y10 s0 s1 s2 s3 s4 hz0 hz2
  obtain ⟨p0, p1, p2, p3, p4, p5, p6, p7, p8, p9, p10⟩ := HX1.out.1.cells
  obtain ⟨f0, f1, f2, f3, f4, f5, f6, f7, f8, f9, f10⟩ := HX1.out.1.free
  obtain ⟨⟨s0, s1, s2, s3, s4⟩, -⟩ := five_cells HX1.out.2.1
  obtain ⟨r0, r1, r2, r3, r4, r5, r6, r7, r8, r9, r10⟩ := HX1.out.2.2.cells
  obtain ⟨y0, y1, y2, y3, y4, y5, y6, y7, y8, y9, y10⟩ := HX1.out.2.2.free
  have hz0 := HX1.out.1.lt
  have hz2 := HX1.out.2.2.lt
  go_wp2
  refine bodyPost_ret (v := .tuple #[.agg #[.slice (some ⟨Zm, 0, none⟩) (64 * K) cm, .slice a len cap, .int .i64 (x.s.c : Int), .slice ra x.s.n rc, .bool x.s.ov, .slice oa x.s.m oc, .int .u64 x.o, .int .u64 x.m, .bool x.sf, .bool x.off, .int .u32 x.code], .bool true]) (by simp [results, Try.results12, go_sem, r0, r1, r2, r3, r4, r5, r6, r7, r8, r9, r10]) rfl ⟨_, rfl, step14_fin HI1.out HR1.out ⟨HOK.out.1.up1, HOK.out.2⟩ HF1.out (fun k hk => .inl hk) HLT.out (Bar.refl _ w1)⟩
end Go.Proofs.Ytkbccccjjlkgbaa

/- Layer 14: a store, done by both. (By gen-busstep.py.) -/
namespace Go.Proofs.Ytkbccccjjlkgbaa
open Go.RowKit
set_option linter.unusedVariables false
set_option linter.unusedSimpArgs false
set_option maxRecDepth 100000

set_option maxHeartbeats 8000000 in
theorem step14_2ok {B R P C A K : Nat} {S : Nat → Prop} {T Y : Nat → Int} {x : BS} {u : Value} {a : Option Addr} {len cap : Nat} (c : Nat) (ad n v t : Int) (w : World) (hK : K ≤ 1024) (hc : c ≤ 1000) (a0 : 0 ≤ ad) (a1 : ad < 4294967296) (v0 : 0 ≤ v) (v1 : v < 4294967296) (hok : BsOk K x c) (hnw : NoW x) (hi : IsBus w B R P C A K S len T Y x) (h : RefB (Fp B R P A S) w u a len cap K x) (hz : ask14 K ad n = 0) :
    Calls Try.prog 12 #[.pointer (some ⟨B, 0, none⟩), u, .agg #[.int .i64 2, .int .u32 ad, .int .i64 n, .int .u32 v, .int .u64 t]] w fun e w' => ∃ v', e = .returned (.tuple #[v', .bool true]) ∧ StepOut14 w B R P C A K S a len cap T Y c v' w' := by
  obtain ⟨mv, rx, out, rfl, h0, hx, ho⟩ := id h
  obtain ⟨Zm, cm, rfl, -, -, -, -⟩ := id h0
  obtain ⟨ra, rc, rfl⟩ := hx.form
  obtain ⟨oa, oc, rfl⟩ := ho.form
  obtain ⟨hS0, hB0, hsz⟩ := st14_start w (.slice (some ⟨Zm, 0, none⟩) (64 * K) cm) (.slice a len cap) (.int .i64 (x.s.c : Int)) (.slice ra x.s.n rc) (.bool x.s.ov) (.slice oa x.s.m oc) (.int .u64 x.o) (.int .u64 x.m) (.bool x.sf) (.bool x.off) (.int .u32 x.code) (.int .i64 2) (.int .u32 ad) (.int .i64 n) (.int .u32 v) (.int .u64 t)
  obtain ⟨W0, hW0⟩ : ∃ W0, W0 = (((w.alloc (.cells #[.slice (some ⟨Zm, 0, none⟩) (64 * K) cm, .slice a len cap, .int .i64 (x.s.c : Int), .slice ra x.s.n rc, .bool x.s.ov, .slice oa x.s.m oc, .int .u64 x.o, .int .u64 x.m, .bool x.sf, .bool x.off, .int .u32 x.code] 39)).alloc (.cells #[.int .i64 2, .int .u32 ad, .int .i64 n, .int .u32 v, .int .u64 t] 43)).alloc zeroB) := ⟨_, rfl⟩
  rw [← hW0] at hS0 hB0 hsz
  have HW0 := Lib.hid hW0
  have HI0 := Lib.hid (hi.on hB0)
  have HLT := Lib.hid hi.lt
  have HLE := Lib.hid hi.2.2.1.le
  have HR0 := Lib.hid (h.sq hB0)
  have HX0 := Lib.hid hS0
  have HF0 : Hid (Fr (Fp B R P A S) w W0) := Fr.of _ hB0
  have HSZ := Lib.hid hsz
  have HB0 := Lib.hid hB0
  have HOK := Lib.hid (And.intro hok hnw)
  have HSM : Hid (x.s.m ≤ 100000) := by have := hok.2.2.2; show x.s.m ≤ 100000; omega
  have HASK : Hid (∀ W : World, Calls Try.prog 31 #[.slice (some ⟨Zm, 0, none⟩) (64 * K) cm, .int .u32 ad, .int .i64 n] W fun e w' => e = .returned (.int .i64 (ask14 K ad n)) ∧ w' = W) := fun W => rask14_any K _ _ ad n W hK a0 a1
  rw [hz] at HASK
  have HG : Hid (∃ (x' : BS), (BsOk K x' (c + 1) ∧ NoW x') ∧ (∀ W, IsBus W B R P C A K S len T Y x → Calls Try.prog 18 #[.pointer (some ⟨B, 0, none⟩), .int .u32 ad, .int .i64 n, .int .u32 v, .int .u64 t] W fun e w' => e = .returned (.tuple #[.bool false, .int .i64 0]) ∧ ∃ S', IsBus w' B R P C A K S' len T Y x' ∧ Fr (Fp B R P A S) W w' ∧ Ext W S S') ∧
      (∀ W S', RefB (SQ (Fp B R P A S') w) W (.agg #[.slice (some ⟨Zm, 0, none⟩) (64 * K) cm, .slice a len cap, .int .i64 (x.s.c : Int), .slice ra x.s.n rc, .bool x.s.ov, .slice oa x.s.m oc, .int .u64 x.o, .int .u64 x.m, .bool x.sf, .bool x.off, .int .u32 x.code]) a len cap K x → (∀ k, SQ (Fp B R P A S') w k → k < W.heap.size) → Calls Try.prog 33 #[.agg #[.slice (some ⟨Zm, 0, none⟩) (64 * K) cm, .slice a len cap, .int .i64 (x.s.c : Int), .slice ra x.s.n rc, .bool x.s.ov, .slice oa x.s.m oc, .int .u64 x.o, .int .u64 x.m, .bool x.sf, .bool x.off, .int .u32 x.code], .int .u32 ad, .int .i64 n, .int .u32 v, .int .u64 t] W fun e w' => ∃ Zm' cm' ra' rc' oa' oc', e = .returned (.agg #[.slice (some ⟨Zm', 0, none⟩) (64 * K) cm', .slice a len cap, .int .i64 (x'.s.c : Int), .slice ra' x'.s.n rc', .bool x'.s.ov, .slice oa' x'.s.m oc', .int .u64 x'.o, .int .u64 x'.m, .bool x'.sf, .bool x'.off, .int .u32 x'.code]) ∧ RefB (SQ (Fp B R P A S') w) w' (.agg #[.slice (some ⟨Zm', 0, none⟩) (64 * K) cm', .slice a len cap, .int .i64 (x'.s.c : Int), .slice ra' x'.s.n rc', .bool x'.s.ov, .slice oa' x'.s.m oc', .int .u64 x'.o, .int .u64 x'.m, .bool x'.sf, .bool x'.off, .int .u32 x'.code]) a len cap K x' ∧ Below W.heap.size W w')) := by
    refine ⟨x.st K ad n v t, ⟨hok.st v0 v1, hnw.st⟩, fun W hW => ?_, fun W S' hr hs => ?_⟩
    · have := bstore_yes ad n v t W hK hW c hok (by omega) a0 a1 v0 v1 hz
      rwa [hnw.hit] at this
    · refine (rstore14_yes ad n v t W hK HLE.out.2.2 HSM.out hr hs hok a0 a1 v0 v1 hz).mono ?_
      rintro e w' ⟨v', rfl, h1, h2⟩
      obtain ⟨mv', rx', out', rfl, h0', hx', ho'⟩ := id h1
      obtain ⟨Zm', cm', rfl, -, -, -, -⟩ := id h0'
      obtain ⟨ra', rc', rfl⟩ := hx'.form
      obtain ⟨oa', oc', rfl⟩ := ho'.form
      exact ⟨Zm', cm', ra', rc', oa', oc', rfl, h1, h2⟩
  clear hW0 h h0 hx ho hS0 hB0 hsz hi hok hnw a0 a1 v0 v1 hz
  obtain ⟨x', hok', hld, hrl⟩ := HG.out
  have HOK' := Lib.hid hok'
  have HLD := Lib.hid hld
  have HRL := Lib.hid hrl
  clear hok' hld hrl HG HOK
  obtain ⟨p0, p1, p2, p3, p4, p5, p6, p7, p8, p9, p10⟩ := HX0.out.1.cells
  obtain ⟨f0, f1, f2, f3, f4, f5, f6, f7, f8, f9, f10⟩ := HX0.out.1.free
  obtain ⟨⟨s0, s1, s2, s3, s4⟩, -⟩ := five_cells HX0.out.2.1
  obtain ⟨r0, r1, r2, r3, r4, r5, r6, r7, r8, r9, r10⟩ := HX0.out.2.2.cells
  obtain ⟨y0, y1, y2, y3, y4, y5, y6, y7, y8, y9, y10⟩ := HX0.out.2.2.free
  have hz0 := HX0.out.1.lt
  have hz2 := HX0.out.2.2.lt
  go_enter Try.func12, Try.ntmps12
  go_wp2_with fail
  rw [← HW0.out]
  go_wp2_with fail
  refine (HASK.out W0).mono ?_
  rintro e w' ⟨rfl, hw⟩
  have hw := hw.symm
  subst hw
  go_wp2_with fail
  refine (HLD.out W0 HI0.out).mono ?_
  rintro e w1 ⟨rfl, S', hi1, hf1, he1⟩
  have HI1 := Lib.hid hi1
  have HF1 : Hid (Fr (Fp B R P A S) w w1) := HF0.out.trans hf1
  have HX1 := Lib.hid (HX0.out.fr hf1 HLT.out)
  have HR1 := Lib.hid (HR0.out.step (hf1.mono14 (fun k h => .inl h)) (ext_sq (ext_fp he1)))
  have HE : Hid (∀ k, S' k → S k ∨ w.heap.size + 3 ≤ k) := fun k hk => by have := HSZ.out; rcases he1 k hk with h | h; exact .inl h; exact .inr (by omega)
  clear hi1 hf1 he1 p0 p1 p2 p3 p4 p5 p6 p7 p8 p9 p10 f0 f1 f2 f3 f4 f5 f6 f7 f8 f9 f10 r0 r1 r2 r3 r4 r5 r6 r7 r8 r9 r10 y0 y1 y2 y3 y4 y5 y6 y7 y8 y9 y10 s0 s1 s2 s3 s4 hz0 hz2
  obtain ⟨p0, p1, p2, p3, p4, p5, p6, p7, p8, p9, p10⟩ := HX1.out.1.cells
  obtain ⟨f0, f1, f2, f3, f4, f5, f6, f7, f8, f9, f10⟩ := HX1.out.1.free
  obtain ⟨⟨s0, s1, s2, s3, s4⟩, -⟩ := five_cells HX1.out.2.1
  obtain ⟨r0, r1, r2, r3, r4, r5, r6, r7, r8, r9, r10⟩ := HX1.out.2.2.cells
  obtain ⟨y0, y1, y2, y3, y4, y5, y6, y7, y8, y9, y10⟩ := HX1.out.2.2.free
  have hz0 := HX1.out.1.lt
  have hz2 := HX1.out.2.2.lt
  go_wp2_with fail
  refine (HRL.out w1 S' HR1.out (SQ.lt HX1.out HI1.out.lt)).mono ?_
  rintro e w2 ⟨Zm', cm', ra', rc', oa', oc', rfl, hr2, hb2⟩
  have HI2 := Lib.hid (HI1.out.on hb2)
  have HF2 : Hid (Fr (Fp B R P A S) w w2) := HF1.out.trans (Fr.of _ hb2)
  have HX2 := Lib.hid (HX1.out.on hb2)
  have HR2 := Lib.hid hr2
  clear hr2 hb2 p0 p1 p2 p3 p4 p5 p6 p7 p8 p9 p10 f0 f1 f2 f3 f4 f5 f6 f7 f8 f9 f10 r0 r1 r2 r3 r4 r5 r6 r7 r8 r9 r10 y0 y1 y2 y3 y4 y5 y6 y7 y8 y9 y10 s0 s1 s2 s3 s4 hz0 hz2
  obtain ⟨p0, p1, p2, p3, p4, p5, p6, p7, p8, p9, p10⟩ := HX2.out.1.cells
  obtain ⟨f0, f1, f2, f3, f4, f5, f6, f7, f8, f9, f10⟩ := HX2.out.1.free
  obtain ⟨⟨s0, s1, s2, s3, s4⟩, -⟩ := five_cells HX2.out.2.1
  obtain ⟨r0, r1, r2, r3, r4, r5, r6, r7, r8, r9, r10⟩ := HX2.out.2.2.cells
  obtain ⟨y0, y1, y2, y3, y4, y5, y6, y7, y8, y9, y10⟩ := HX2.out.2.2.free
  have hz0 := HX2.out.1.lt
  have hz2 := HX2.out.2.2.lt
  go_wp2
  refine bodyPost_ret (v := .tuple #[.agg #[.slice (some ⟨Zm', 0, none⟩) (64 * K) cm', .slice a len cap, .int .i64 (x'.s.c : Int), .slice ra' x'.s.n rc', .bool x'.s.ov, .slice oa' x'.s.m oc', .int .u64 x'.o, .int .u64 x'.m, .bool x'.sf, .bool x'.off, .int .u32 x'.code], .bool true]) (by simp [results, Try.results12, go_sem, r0, r1, r2, r3, r4, r5, r6, r7, r8, r9, r10]) rfl ⟨_, rfl, step14_fin HI2.out HR2.out HOK'.out HF2.out (HE.out) HLT.out (Bar.refl _ w2)⟩

set_option maxHeartbeats 8000000 in
theorem step14_2no {B R P C A K : Nat} {S : Nat → Prop} {T Y : Nat → Int} {x : BS} {u : Value} {a : Option Addr} {len cap : Nat} (c : Nat) (ad n v t : Int) (w : World) (hK : K ≤ 1024) (hc : c ≤ 1000) (a0 : 0 ≤ ad) (a1 : ad < 4294967296) (v0 : 0 ≤ v) (v1 : v < 4294967296) (hok : BsOk K x c) (hnw : NoW x) (hi : IsBus w B R P C A K S len T Y x) (h : RefB (Fp B R P A S) w u a len cap K x) (hz : ask14 K ad n ≠ 0) :
    Calls Try.prog 12 #[.pointer (some ⟨B, 0, none⟩), u, .agg #[.int .i64 2, .int .u32 ad, .int .i64 n, .int .u32 v, .int .u64 t]] w fun e w' => ∃ v', e = .returned (.tuple #[v', .bool true]) ∧ StepOut14 w B R P C A K S a len cap T Y c v' w' := by
  obtain ⟨mv, rx, out, rfl, h0, hx, ho⟩ := id h
  obtain ⟨Zm, cm, rfl, -, -, -, -⟩ := id h0
  obtain ⟨ra, rc, rfl⟩ := hx.form
  obtain ⟨oa, oc, rfl⟩ := ho.form
  obtain ⟨hS0, hB0, hsz⟩ := st14_start w (.slice (some ⟨Zm, 0, none⟩) (64 * K) cm) (.slice a len cap) (.int .i64 (x.s.c : Int)) (.slice ra x.s.n rc) (.bool x.s.ov) (.slice oa x.s.m oc) (.int .u64 x.o) (.int .u64 x.m) (.bool x.sf) (.bool x.off) (.int .u32 x.code) (.int .i64 2) (.int .u32 ad) (.int .i64 n) (.int .u32 v) (.int .u64 t)
  obtain ⟨W0, hW0⟩ : ∃ W0, W0 = (((w.alloc (.cells #[.slice (some ⟨Zm, 0, none⟩) (64 * K) cm, .slice a len cap, .int .i64 (x.s.c : Int), .slice ra x.s.n rc, .bool x.s.ov, .slice oa x.s.m oc, .int .u64 x.o, .int .u64 x.m, .bool x.sf, .bool x.off, .int .u32 x.code] 39)).alloc (.cells #[.int .i64 2, .int .u32 ad, .int .i64 n, .int .u32 v, .int .u64 t] 43)).alloc zeroB) := ⟨_, rfl⟩
  rw [← hW0] at hS0 hB0 hsz
  have HW0 := Lib.hid hW0
  have HI0 := Lib.hid (hi.on hB0)
  have HLT := Lib.hid hi.lt
  have HLE := Lib.hid hi.2.2.1.le
  have HR0 := Lib.hid (h.sq hB0)
  have HX0 := Lib.hid hS0
  have HF0 : Hid (Fr (Fp B R P A S) w W0) := Fr.of _ hB0
  have HSZ := Lib.hid hsz
  have HB0 := Lib.hid hB0
  have HOK := Lib.hid (And.intro hok hnw)
  have HSM : Hid (x.s.m ≤ 100000) := by have := hok.2.2.2; show x.s.m ≤ 100000; omega
  have HASK : Hid (∀ W : World, Calls Try.prog 31 #[.slice (some ⟨Zm, 0, none⟩) (64 * K) cm, .int .u32 ad, .int .i64 n] W fun e w' => e = .returned (.int .i64 (ask14 K ad n)) ∧ w' = W) := fun W => rask14_any K _ _ ad n W hK a0 a1
  have HLD : Hid (∀ W, IsBus W B R P C A K S len T Y x → Calls Try.prog 18 #[.pointer (some ⟨B, 0, none⟩), .int .u32 ad, .int .i64 n, .int .u32 v, .int .u64 t] W fun e w' => e = .returned (.tuple #[.bool false, .int .i64 (ask14 K ad n)]) ∧ IsBus w' B R P C A K S len T Y x ∧ Fr (Fp B R P A S) W w') := fun W hW => bstore_no ad n v t W hK hW c hok (by omega) a0 a1 v0 v1 hz
  have hz' : (ask14 K ad n != 0) = true := bne_iff_ne.2 hz
  clear hW0 h h0 hx ho hS0 hB0 hsz hi hok hnw a0 a1 v0 v1 hz
  generalize ask14 K ad n = z at *
  obtain ⟨p0, p1, p2, p3, p4, p5, p6, p7, p8, p9, p10⟩ := HX0.out.1.cells
  obtain ⟨f0, f1, f2, f3, f4, f5, f6, f7, f8, f9, f10⟩ := HX0.out.1.free
  obtain ⟨⟨s0, s1, s2, s3, s4⟩, -⟩ := five_cells HX0.out.2.1
  obtain ⟨r0, r1, r2, r3, r4, r5, r6, r7, r8, r9, r10⟩ := HX0.out.2.2.cells
  obtain ⟨y0, y1, y2, y3, y4, y5, y6, y7, y8, y9, y10⟩ := HX0.out.2.2.free
  have hz0 := HX0.out.1.lt
  have hz2 := HX0.out.2.2.lt
  go_enter Try.func12, Try.ntmps12
  go_wp2_with fail
  rw [← HW0.out]
  go_wp2_with fail
  refine (HASK.out W0).mono ?_
  rintro e w' ⟨rfl, hw⟩
  have hw := hw.symm
  subst hw
  go_wp2_with fail
  refine (HLD.out W0 HI0.out).mono ?_
  rintro e w1 ⟨rfl, hi1, hf1⟩
  have HI1 := Lib.hid hi1
  have HF1 : Hid (Fr (Fp B R P A S) w w1) := HF0.out.trans hf1
  have HX1 := Lib.hid (HX0.out.fr hf1 HLT.out)
  have HR1 := Lib.hid (HR0.out.step (hf1.mono14 (fun k h => .inl h)) (Ext.refl _ _))
  clear hi1 hf1 p0 p1 p2 p3 p4 p5 p6 p7 p8 p9 p10 f0 f1 f2 f3 f4 f5 f6 f7 f8 f9 f10 r0 r1 r2 r3 r4 r5 r6 r7 r8 r9 r10 y0 y1 y2 y3 y4 y5 y6 y7 y8 y9 y10 s0 s1 s2 s3 s4 hz0 hz2
  obtain ⟨p0, p1, p2, p3, p4, p5, p6, p7, p8, p9, p10⟩ := HX1.out.1.cells
  obtain ⟨f0, f1, f2, f3, f4, f5, f6, f7, f8, f9, f10⟩ := HX1.out.1.free
  obtain ⟨⟨s0, s1, s2, s3, s4⟩, -⟩ := five_cells HX1.out.2.1
  obtain ⟨r0, r1, r2, r3, r4, r5, r6, r7, r8, r9, r10⟩ := HX1.out.2.2.cells
  obtain ⟨y0, y1, y2, y3, y4, y5, y6, y7, y8, y9, y10⟩ := HX1.out.2.2.free
  have hz0 := HX1.out.1.lt
  have hz2 := HX1.out.2.2.lt
  go_wp2
  refine bodyPost_ret (v := .tuple #[.agg #[.slice (some ⟨Zm, 0, none⟩) (64 * K) cm, .slice a len cap, .int .i64 (x.s.c : Int), .slice ra x.s.n rc, .bool x.s.ov, .slice oa x.s.m oc, .int .u64 x.o, .int .u64 x.m, .bool x.sf, .bool x.off, .int .u32 x.code], .bool true]) (by simp [results, Try.results12, go_sem, r0, r1, r2, r3, r4, r5, r6, r7, r8, r9, r10]) rfl ⟨_, rfl, step14_fin HI1.out HR1.out ⟨HOK.out.1.up1, HOK.out.2⟩ HF1.out (fun k hk => .inl hk) HLT.out (Bar.refl _ w1)⟩
end Go.Proofs.Ytkbccccjjlkgbaa

/- Layer 14: a tick of the console, done by both; a step of no kind. (By gen-busstep.py.) -/
namespace Go.Proofs.Ytkbccccjjlkgbaa
open Go.RowKit
set_option linter.unusedVariables false
set_option linter.unusedSimpArgs false
set_option maxRecDepth 100000

set_option maxHeartbeats 8000000 in
theorem step14_no {B R P C A K : Nat} {S : Nat → Prop} {T Y : Nat → Int} {x : BS} {u : Value} {a : Option Addr} {len cap : Nat} (c : Nat) (kd ad n v t : Int) (w : World) (hK : K ≤ 1024) (hc : c ≤ 1000) (a0 : 0 ≤ ad) (a1 : ad < 4294967296) (v0 : 0 ≤ v) (v1 : v < 4294967296) (hok : BsOk K x c) (hnw : NoW x) (hi : IsBus w B R P C A K S len T Y x) (h : RefB (Fp B R P A S) w u a len cap K x) (h1 : (kd == 1) = false) (h2 : (kd == 2) = false) (h3 : (kd == 3) = false) :
    Calls Try.prog 12 #[.pointer (some ⟨B, 0, none⟩), u, .agg #[.int .i64 kd, .int .u32 ad, .int .i64 n, .int .u32 v, .int .u64 t]] w fun e w' => ∃ v', e = .returned (.tuple #[v', .bool true]) ∧ StepOut14 w B R P C A K S a len cap T Y c v' w' := by
  obtain ⟨mv, rx, out, rfl, h0, hx, ho⟩ := id h
  obtain ⟨Zm, cm, rfl, -, -, -, -⟩ := id h0
  obtain ⟨ra, rc, rfl⟩ := hx.form
  obtain ⟨oa, oc, rfl⟩ := ho.form
  obtain ⟨hS0, hB0, hsz⟩ := st14_start w (.slice (some ⟨Zm, 0, none⟩) (64 * K) cm) (.slice a len cap) (.int .i64 (x.s.c : Int)) (.slice ra x.s.n rc) (.bool x.s.ov) (.slice oa x.s.m oc) (.int .u64 x.o) (.int .u64 x.m) (.bool x.sf) (.bool x.off) (.int .u32 x.code) (.int .i64 kd) (.int .u32 ad) (.int .i64 n) (.int .u32 v) (.int .u64 t)
  obtain ⟨W0, hW0⟩ : ∃ W0, W0 = (((w.alloc (.cells #[.slice (some ⟨Zm, 0, none⟩) (64 * K) cm, .slice a len cap, .int .i64 (x.s.c : Int), .slice ra x.s.n rc, .bool x.s.ov, .slice oa x.s.m oc, .int .u64 x.o, .int .u64 x.m, .bool x.sf, .bool x.off, .int .u32 x.code] 39)).alloc (.cells #[.int .i64 kd, .int .u32 ad, .int .i64 n, .int .u32 v, .int .u64 t] 43)).alloc zeroB) := ⟨_, rfl⟩
  rw [← hW0] at hS0 hB0 hsz
  have HW0 := Lib.hid hW0
  have HI0 := Lib.hid (hi.on hB0)
  have HLT := Lib.hid hi.lt
  have HLE := Lib.hid hi.2.2.1.le
  have HR0 := Lib.hid (h.sq hB0)
  have HX0 := Lib.hid hS0
  have HF0 : Hid (Fr (Fp B R P A S) w W0) := Fr.of _ hB0
  have HSZ := Lib.hid hsz
  have HB0 := Lib.hid hB0
  have HOK := Lib.hid (And.intro hok hnw)
  have HSM : Hid (x.s.m ≤ 100000) := by have := hok.2.2.2; show x.s.m ≤ 100000; omega
  have HASK : Hid (∀ W : World, Calls Try.prog 31 #[.slice (some ⟨Zm, 0, none⟩) (64 * K) cm, .int .u32 ad, .int .i64 n] W fun e w' => e = .returned (.int .i64 (ask14 K ad n)) ∧ w' = W) := fun W => rask14_any K _ _ ad n W hK a0 a1
  clear hW0 h h0 hx ho hS0 hB0 hsz hi hok hnw a0 a1 v0 v1
  generalize ask14 K ad n = z at *
  obtain ⟨p0, p1, p2, p3, p4, p5, p6, p7, p8, p9, p10⟩ := HX0.out.1.cells
  obtain ⟨f0, f1, f2, f3, f4, f5, f6, f7, f8, f9, f10⟩ := HX0.out.1.free
  obtain ⟨⟨s0, s1, s2, s3, s4⟩, -⟩ := five_cells HX0.out.2.1
  obtain ⟨r0, r1, r2, r3, r4, r5, r6, r7, r8, r9, r10⟩ := HX0.out.2.2.cells
  obtain ⟨y0, y1, y2, y3, y4, y5, y6, y7, y8, y9, y10⟩ := HX0.out.2.2.free
  have hz0 := HX0.out.1.lt
  have hz2 := HX0.out.2.2.lt
  go_enter Try.func12, Try.ntmps12
  go_wp2_with fail
  rw [← HW0.out]
  go_wp2_with fail
  refine (HASK.out W0).mono ?_
  rintro e w' ⟨rfl, hw⟩
  have hw := hw.symm
  subst hw
  go_wp2
  refine bodyPost_ret (v := .tuple #[.agg #[.slice (some ⟨Zm, 0, none⟩) (64 * K) cm, .slice a len cap, .int .i64 (x.s.c : Int), .slice ra x.s.n rc, .bool x.s.ov, .slice oa x.s.m oc, .int .u64 x.o, .int .u64 x.m, .bool x.sf, .bool x.off, .int .u32 x.code], .bool true]) (by simp [results, Try.results12, go_sem, r0, r1, r2, r3, r4, r5, r6, r7, r8, r9, r10]) rfl ⟨_, rfl, step14_fin HI0.out HR0.out ⟨HOK.out.1.up1, HOK.out.2⟩ HF0.out (fun k hk => .inl hk) HLT.out (Bar.refl _ W0)⟩

set_option maxHeartbeats 8000000 in
theorem step14_3 {B R P C A K : Nat} {S : Nat → Prop} {T Y : Nat → Int} {x : BS} {u : Value} {a : Option Addr} {len cap : Nat} (c : Nat) (ad n v t : Int) (w : World) (hK : K ≤ 1024) (hc : c ≤ 1000) (a0 : 0 ≤ ad) (a1 : ad < 4294967296) (v0 : 0 ≤ v) (v1 : v < 4294967296) (hok : BsOk K x c) (hnw : NoW x) (hi : IsBus w B R P C A K S len T Y x) (h : RefB (Fp B R P A S) w u a len cap K x) (hl : len ≤ 256) (ha : IsArr w a len cap T Y) (hna : 0 < len → ∀ ad, a = some ad → ¬ Fp B R P A S ad.block) :
    Calls Try.prog 12 #[.pointer (some ⟨B, 0, none⟩), u, .agg #[.int .i64 3, .int .u32 ad, .int .i64 n, .int .u32 v, .int .u64 t]] w fun e w' => ∃ v', e = .returned (.tuple #[v', .bool true]) ∧ StepOut14 w B R P C A K S a len cap T Y c v' w' := by
  obtain ⟨mv, rx, out, rfl, h0, hx, ho⟩ := id h
  obtain ⟨Zm, cm, rfl, -, -, -, -⟩ := id h0
  obtain ⟨ra, rc, rfl⟩ := hx.form
  obtain ⟨oa, oc, rfl⟩ := ho.form
  obtain ⟨hS0, hB0, hsz⟩ := st14_start w (.slice (some ⟨Zm, 0, none⟩) (64 * K) cm) (.slice a len cap) (.int .i64 (x.s.c : Int)) (.slice ra x.s.n rc) (.bool x.s.ov) (.slice oa x.s.m oc) (.int .u64 x.o) (.int .u64 x.m) (.bool x.sf) (.bool x.off) (.int .u32 x.code) (.int .i64 3) (.int .u32 ad) (.int .i64 n) (.int .u32 v) (.int .u64 t)
  obtain ⟨W0, hW0⟩ : ∃ W0, W0 = (((w.alloc (.cells #[.slice (some ⟨Zm, 0, none⟩) (64 * K) cm, .slice a len cap, .int .i64 (x.s.c : Int), .slice ra x.s.n rc, .bool x.s.ov, .slice oa x.s.m oc, .int .u64 x.o, .int .u64 x.m, .bool x.sf, .bool x.off, .int .u32 x.code] 39)).alloc (.cells #[.int .i64 3, .int .u32 ad, .int .i64 n, .int .u32 v, .int .u64 t] 43)).alloc zeroB) := ⟨_, rfl⟩
  rw [← hW0] at hS0 hB0 hsz
  have HW0 := Lib.hid hW0
  have HI0 := Lib.hid (hi.on hB0)
  have HLT := Lib.hid hi.lt
  have HLE := Lib.hid hi.2.2.1.le
  have HR0 := Lib.hid (h.sq hB0)
  have HX0 := Lib.hid hS0
  have HF0 : Hid (Fr (Fp B R P A S) w W0) := Fr.of _ hB0
  have HSZ := Lib.hid hsz
  have HB0 := Lib.hid hB0
  have HOK := Lib.hid (And.intro hok hnw)
  have HSM : Hid (x.s.m ≤ 100000) := by have := hok.2.2.2; show x.s.m ≤ 100000; omega
  have HASK : Hid (∀ W : World, Calls Try.prog 31 #[.slice (some ⟨Zm, 0, none⟩) (64 * K) cm, .int .u32 ad, .int .i64 n] W fun e w' => e = .returned (.int .i64 (ask14 K ad n)) ∧ w' = W) := fun W => rask14_any K _ _ ad n W hK a0 a1
  have HG : Hid (∃ s' : CS, (BsOk K { x with s := s' } (c + 1) ∧ NoW { x with s := s' }) ∧ (∀ W, IsBus W B R P C A K S len T Y x → Calls Try.prog 34 #[.pointer (some ⟨C, 0, none⟩), .int .u64 t] W fun e w' => e = .returned (.tuple #[]) ∧ IsBus w' B R P C A K S len T Y { x with s := s' } ∧ Fr (Fp B R P A S) W w') ∧
      (∀ W, IsArr W a len cap T Y → RefB (SQ (Fp B R P A S) w) W (.agg #[.slice (some ⟨Zm, 0, none⟩) (64 * K) cm, .slice a len cap, .int .i64 (x.s.c : Int), .slice ra x.s.n rc, .bool x.s.ov, .slice oa x.s.m oc, .int .u64 x.o, .int .u64 x.m, .bool x.sf, .bool x.off, .int .u32 x.code]) a len cap K x → (∀ k, SQ (Fp B R P A S) w k → k < W.heap.size) → Calls Try.prog 35 #[.agg #[.slice a len cap, .int .i64 (x.s.c : Int), .slice ra x.s.n rc, .bool x.s.ov, .slice oa x.s.m oc], .int .u64 t] W fun e w' => ∃ ra' rc' oa' oc', e = .returned (.agg #[.slice a len cap, .int .i64 (s'.c : Int), .slice ra' s'.n rc', .bool s'.ov, .slice oa' s'.m oc']) ∧ RefB (SQ (Fp B R P A S) w) w' (.agg #[.slice (some ⟨Zm, 0, none⟩) (64 * K) cm, .slice a len cap, .int .i64 (s'.c : Int), .slice ra' s'.n rc', .bool s'.ov, .slice oa' s'.m oc', .int .u64 x.o, .int .u64 x.m, .bool x.sf, .bool x.off, .int .u32 x.code]) a len cap K { x with s := s' } ∧ Below W.heap.size W w')) := by
    refine ⟨x.s.up len T Y t, ⟨hok.up (len := len) (T := T) (Y := Y) (t := t), hnw⟩, fun W hW => ?_, fun W hA hr hs => ?_⟩
    · refine (cup_any t W hW.2.2.1).mono ?_
      rintro e w' ⟨rfl, h1, h2⟩
      exact ⟨rfl, hW.con h1 h2 (Ext.refl _ _), h2.fp⟩
    · obtain ⟨g0, g1, g2⟩ := refB_get hr
      refine (rup_any (SQ (Fp B R P A S) w) t W hl HLE.out.1 HLE.out.2.2 HSM.out hA ⟨_, _, rfl, g1, g2⟩ hs).mono ?_
      rintro e w' ⟨v', rfl, ⟨rx', out', rfl, hx', ho'⟩, hb⟩
      obtain ⟨ra', rc', rfl⟩ := hx'.form
      obtain ⟨oa', oc', rfl⟩ := ho'.form
      exact ⟨ra', rc', oa', oc', rfl, refB_of (a := a) (len := len) (cap := cap) (K := K) { x with s := x.s.up len T Y t } (g0.on hb) hx' ho', hb⟩
  have HA0 := Lib.hid (ha.on hB0)
  have HNA := Lib.hid hna
  clear hW0 h h0 hx ho hS0 hB0 hsz hi hok hnw a0 a1 v0 v1 ha hna
  obtain ⟨s', hok', hup, hru⟩ := HG.out
  have HOK' := Lib.hid hok'
  have HUP := Lib.hid hup
  have HRU := Lib.hid hru
  clear hok' hup hru HG HOK
  generalize ask14 K ad n = z at *
  obtain ⟨p0, p1, p2, p3, p4, p5, p6, p7, p8, p9, p10⟩ := HX0.out.1.cells
  obtain ⟨f0, f1, f2, f3, f4, f5, f6, f7, f8, f9, f10⟩ := HX0.out.1.free
  obtain ⟨⟨s0, s1, s2, s3, s4⟩, -⟩ := five_cells HX0.out.2.1
  obtain ⟨r0, r1, r2, r3, r4, r5, r6, r7, r8, r9, r10⟩ := HX0.out.2.2.cells
  obtain ⟨y0, y1, y2, y3, y4, y5, y6, y7, y8, y9, y10⟩ := HX0.out.2.2.free
  have hz0 := HX0.out.1.lt
  have hz2 := HX0.out.2.2.lt
  go_enter Try.func12, Try.ntmps12
  go_wp2_with fail
  rw [← HW0.out]
  go_wp2_with fail
  refine (HASK.out W0).mono ?_
  rintro e w' ⟨rfl, hw⟩
  have hw := hw.symm
  subst hw
  go_wp2_with fail
  go_region_with (first
    | (go_at_call 28; refine (bcon_any _ (by first | exact HI0.out.1 | exact (HI0.out.on ((Below.refl _ _).drew)).1)).mono ?_; rintro e w' ⟨rfl, hw⟩; have hw := hw.symm; subst hw)
    | (go_at_call 34; refine (HUP.out _ (by first | exact HI0.out | exact HI0.out.on ((Below.refl _ _).drew))).mono ?_; rintro e w1 ⟨rfl, hi1, hf1⟩; have hf0 : Fr (Fp B R P A S) W0 w1 := (Fr.of _ ((Below.refl _ _).drew)).trans hf1; have HI1 := Lib.hid hi1; have HF1 : Hid (Fr (Fp B R P A S) w w1) := HF0.out.trans hf0; have HX1 := Lib.hid (HX0.out.fr hf0 HLT.out); have HR1 := Lib.hid (HR0.out.step (hf0.mono14 (fun k h => .inl h)) (Ext.refl _ _)); have HA1 := Lib.hid (HA0.out.fr14 hf0 HNA.out); clear hi1 hf1 hf0 p0 p1 p2 p3 p4 p5 p6 p7 p8 p9 p10 f0 f1 f2 f3 f4 f5 f6 f7 f8 f9 f10 r0 r1 r2 r3 r4 r5 r6 r7 r8 r9 r10 y0 y1 y2 y3 y4 y5 y6 y7 y8 y9 y10 s0 s1 s2 s3 s4 hz0 hz2; obtain ⟨p0, p1, p2, p3, p4, p5, p6, p7, p8, p9, p10⟩ := HX1.out.1.cells; obtain ⟨f0, f1, f2, f3, f4, f5, f6, f7, f8, f9, f10⟩ := HX1.out.1.free; obtain ⟨⟨s0, s1, s2, s3, s4⟩, -⟩ := five_cells HX1.out.2.1; obtain ⟨r0, r1, r2, r3, r4, r5, r6, r7, r8, r9, r10⟩ := HX1.out.2.2.cells; obtain ⟨y0, y1, y2, y3, y4, y5, y6, y7, y8, y9, y10⟩ := HX1.out.2.2.free; have hz0 := HX1.out.1.lt; have hz2 := HX1.out.2.2.lt))
  all_goals
    go_wp2_with fail
    refine (HRU.out w1 HA1.out HR1.out (SQ.lt HX1.out HI1.out.lt)).mono ?_
    rintro e w2 ⟨ra', rc', oa', oc', rfl, hr2, hb2⟩
    have HI2 := Lib.hid (HI1.out.on hb2)
    have HF2 : Hid (Fr (Fp B R P A S) w w2) := HF1.out.trans (Fr.of _ hb2)
    have HX2 := Lib.hid (HX1.out.on hb2)
    have HR2 := Lib.hid hr2
    clear hr2 hb2 p0 p1 p2 p3 p4 p5 p6 p7 p8 p9 p10 f0 f1 f2 f3 f4 f5 f6 f7 f8 f9 f10 r0 r1 r2 r3 r4 r5 r6 r7 r8 r9 r10 y0 y1 y2 y3 y4 y5 y6 y7 y8 y9 y10 s0 s1 s2 s3 s4 hz0 hz2
    obtain ⟨p0, p1, p2, p3, p4, p5, p6, p7, p8, p9, p10⟩ := HX2.out.1.cells
    obtain ⟨f0, f1, f2, f3, f4, f5, f6, f7, f8, f9, f10⟩ := HX2.out.1.free
    obtain ⟨⟨s0, s1, s2, s3, s4⟩, -⟩ := five_cells HX2.out.2.1
    obtain ⟨r0, r1, r2, r3, r4, r5, r6, r7, r8, r9, r10⟩ := HX2.out.2.2.cells
    obtain ⟨y0, y1, y2, y3, y4, y5, y6, y7, y8, y9, y10⟩ := HX2.out.2.2.free
    have hz0 := HX2.out.1.lt
    have hz2 := HX2.out.2.2.lt
    go_wp2
    refine bodyPost_ret (v := .tuple #[.agg #[.slice (some ⟨Zm, 0, none⟩) (64 * K) cm, .slice a len cap, .int .i64 (s'.c : Int), .slice ra' s'.n rc', .bool s'.ov, .slice oa' s'.m oc', .int .u64 x.o, .int .u64 x.m, .bool x.sf, .bool x.off, .int .u32 x.code], .bool true]) (by simp [results, Try.results12, go_sem, r0, r1, r2, r3, r4, r5, r6, r7, r8, r9, r10]) rfl ⟨_, rfl, step14_fin HI2.out HR2.out HOK'.out HF2.out (fun k hk => .inl hk) HLT.out (barC w.heap.size w2 (.slice a len cap) (.int .i64 (s'.c : Int)) (.slice ra' s'.n rc') (.bool s'.ov) (.slice oa' s'.m oc'))⟩
end Go.Proofs.Ytkbccccjjlkgbaa

/- A region that draws its order: the condition on the world may be turned into a stronger one on the way (phase.py writes the moves). -/
namespace Go.Proofs.Ytkbccccjjlkgbaa
open Go

theorem wpAnyH_shift {P : Program} {md : Region.Mode} {ops : Array Oper} {Q : Exit → Act → World → Prop} {S S' : World → Prop} (h : ∀ w, S' w → S w) : ∀ (fuel : Nat) (listed : Array Bool) (a : Act) (w : World), wpAnyH P md ops Q S' fuel listed a w → wpAnyH P md ops Q S fuel listed a w
  | 0, _, _, _, g => g
  | fuel + 1, _, _, _, g => ⟨g.1, fun i hi => wpOp_mono (fun a' w' g' => ⟨h w' g'.1, wpAnyH_shift h fuel _ a' w' g'.2⟩) (g.2 i hi)⟩
end Go.Proofs.Ytkbccccjjlkgbaa
