/- Layer 14: which device has an address. -/
import Derived.Test.YtkbccccjjlkgbaaBusDev
import Derived.Test.YtkbccccjjlkgbaaTimRef
import Derived.Laws.EntriesVeiled
namespace Go.Proofs.Ytkbccccjjlkgbaa
open Go.RowKit
set_option linter.unusedVariables false
set_option maxRecDepth 100000
set_option linter.unusedSimpArgs false

/-- No device: three functions that are not there. -/
abbrev noDev : Value := .agg #[.nilFunc, .nilFunc, .nilFunc]
abbrev portDev (B : Nat) : Value := .agg #[fnV 81, mtV 82 B, mtV 83 B]
abbrev conDev (B : Nat) : Value := .agg #[fnV 84, mtV 85 B, mtV 86 B]
abbrev timDev (A : Nat) : Value := .agg #[fnV 87, mtV 88 A, mtV 89 A]

/-- The table, and the two variables' blocks, ahead of a round. -/
def DevT (w : World) (B A D : Nat) (W : World) : Prop :=
  W.heap[D]? = some (.cells (devC B A) 89 (0, 0)) ∧ W.heap[w.heap.size + 1]? = some (.cells #[.nilFunc, .nilFunc, .nilFunc] 89 (0, 0)) ∧ W.heap[w.heap.size]? = some (.cells #[.nilFunc, .nilFunc, .nilFunc] 89 (0, 0)) ∧ w.heap.size + 1 < D ∧ Below w.heap.size w W
theorem DevT.on {w W W' : World} {B A D : Nat} (h : DevT w B A D W) (hb : Below W.heap.size W W') : DevT w B A D W' := by
  obtain ⟨h1, h2, h3, h4, h5⟩ := h
  have l1 := (Array.getElem?_eq_some_iff.1 h1).1
  exact ⟨by rw [hb.block _ l1]; exact h1, by rw [hb.block _ (by omega)]; exact h2, by rw [hb.block _ (by omega)]; exact h3, h4, h5.trans (hb.mono h5.size)⟩
theorem DevT.alloc {w W : World} {B A D : Nat} (h : DevT w B A D W) (o : Obj) : DevT w B A D (W.alloc o) := h.on ((Below.refl _ _).alloc (Nat.le_refl _) _)
theorem dev_cells {w : World} {B A D : Nat} (h : w.heap[D]? = some (.cells (devC B A) 89 (0, 0))) :
    (w.cell? ⟨D, 0, none⟩ = some (fnV 81) ∧ w.cell? ⟨D, 1, none⟩ = some (mtV 82 B) ∧ w.cell? ⟨D, 2, none⟩ = some (mtV 83 B)) ∧
    (w.cell? ⟨D, 3, none⟩ = some (fnV 84) ∧ w.cell? ⟨D, 4, none⟩ = some (mtV 85 B) ∧ w.cell? ⟨D, 5, none⟩ = some (mtV 86 B)) ∧
    (w.cell? ⟨D, 6, none⟩ = some (fnV 87) ∧ w.cell? ⟨D, 7, none⟩ = some (mtV 88 A) ∧ w.cell? ⟨D, 8, none⟩ = some (mtV 89 A)) := by
  simp [World.cell?, h]
theorem dev_start (w : World) : ((w.alloc (.cells #[.nilFunc, .nilFunc, .nilFunc] 89)).alloc (.cells #[.nilFunc, .nilFunc, .nilFunc] 89)).heap[w.heap.size + 1]? = some (.cells #[.nilFunc, .nilFunc, .nilFunc] 89 (0, 0)) ∧
    ((w.alloc (.cells #[.nilFunc, .nilFunc, .nilFunc] 89)).alloc (.cells #[.nilFunc, .nilFunc, .nilFunc] 89)).heap[w.heap.size]? = some (.cells #[.nilFunc, .nilFunc, .nilFunc] 89 (0, 0)) ∧
    Below w.heap.size w ((w.alloc (.cells #[.nilFunc, .nilFunc, .nilFunc] 89)).alloc (.cells #[.nilFunc, .nilFunc, .nilFunc] 89)) ∧
    w.heap.size + 1 < ((w.alloc (.cells #[.nilFunc, .nilFunc, .nilFunc] 89)).alloc (.cells #[.nilFunc, .nilFunc, .nilFunc] 89)).heap.size := by
  refine ⟨?_, ?_, ((Below.refl _ _).alloc (Nat.le_refl _) _).alloc (by simp) _, by simp⟩
  · have := heap_alloc_new (w.alloc (.cells #[.nilFunc, .nilFunc, .nilFunc] 89)) (.cells #[.nilFunc, .nilFunc, .nilFunc] 89)
    simpa using this
  · rw [heap_alloc_old _ _ (by simp)]
    exact heap_alloc_new _ _

set_option maxHeartbeats 1600000 in
theorem device_width {B R C A : Nat} {off : Bool} {code : Int} (a n : Int) (w : World) (h : BusC w B R C A off code) (hn : n ≠ 4) :
    Calls Try.prog 41 #[.pointer (some ⟨B, 0, none⟩), .int .u32 a, .int .i64 n] w fun e w' => e = .returned (.tuple #[noDev, .bool false]) ∧ Below w.heap.size w w' := by
  have hn' : (n != 4) = true := bne_iff_ne.2 hn
  clear hn
  have HD : Hid (∀ W, BusC W B R C A off code → Calls Try.prog 68 #[.pointer (some ⟨B, 0, none⟩)] W fun e w' => e = .returned (.slice (some ⟨W.heap.size, 0, none⟩) 3 3) ∧ w'.heap[W.heap.size]? = some (.cells (devC B A) 89 (0, 0)) ∧ Below W.heap.size W w') := fun W hW => devices_any W hW
  have HB := Lib.hid h
  clear h
  obtain ⟨hs1, hs2, hs3, hs4⟩ := dev_start w
  obtain ⟨W0, hW0⟩ : ∃ W0, W0 = ((w.alloc (.cells #[.nilFunc, .nilFunc, .nilFunc] 89)).alloc (.cells #[.nilFunc, .nilFunc, .nilFunc] 89)) := ⟨_, rfl⟩
  rw [← hW0] at hs1 hs2 hs3 hs4
  have HS := Lib.hid hs1
  have HS2 := Lib.hid hs2
  have HB0 := Lib.hid hs3
  have HD0 := Lib.hid hs4
  have HW0 := Lib.hid hW0
  clear hW0 hs1 hs2 hs3 hs4
  go_enter Try.func41, Try.ntmps41
  go_wp2_with fail
  go_step3
  go_wp2_with fail
  rw [← HW0.out]
  go_step3
  go_wp2_with fail
  refine (HD.out W0 (HB.out.on HB0.out)).mono ?_
  rintro e w1 ⟨rfl, hd1, hb1⟩
  have HT1 : Hid (DevT w B A W0.heap.size w1) := ⟨hd1, by rw [hb1.block _ HD0.out]; exact HS.out, by rw [hb1.block _ (by have := HD0.out; omega)]; exact HS2.out, HD0.out, HB0.out.trans (hb1.mono HB0.out.size)⟩
  clear hd1 hb1 HS HS2 HB0 HD0 HW0 HD HB
  generalize W0.heap.size = D at *
  obtain ⟨⟨c0, c1, c2⟩, ⟨c3, c4, c5⟩, c6, c7, c8⟩ := dev_cells HT1.out.1
  obtain ⟨⟨x0, x1, x2⟩, y0, y1, y2⟩ := three_cells HT1.out.2.1
  obtain ⟨⟨r0, r1, r2⟩, u0, u1, u2⟩ := three_cells HT1.out.2.2.1
  have hlt : w.heap.size + 1 < w1.heap.size := (Array.getElem?_eq_some_iff.1 HT1.out.2.1).1
  have hlt0 : w.heap.size < w1.heap.size := by omega
  have hlD : D < w1.heap.size := (Array.getElem?_eq_some_iff.1 HT1.out.1).1
  go_wp2_with fail
  refine wp_loop_rounds 4 ?_
  rw [rounds_succ]
  go_wp2
  rw [Exit.noGoto_ret]
  refine bodyPost_ret (v := .tuple #[noDev, .bool false]) (by simp [results, Try.results41, go_sem, r0, r1, r2, hlt0]) rfl ⟨rfl, ?_⟩
  exact ((HT1.out.2.2.2.2).trans ((bar3 w.heap.size w1 _ _ _).below (Nat.le_refl _) HT1.out.2.2.2.2.size)).alloc (by simp [World.setCell]; exact HT1.out.2.2.2.2.size) _

set_option maxHeartbeats 3200000 in
theorem device_port {B R C A : Nat} {off : Bool} {code : Int} (a : Int) (w : World) (h : BusC w B R C A off code) (h0 : (a == 1048576) = true) :
    Calls Try.prog 41 #[.pointer (some ⟨B, 0, none⟩), .int .u32 a, .int .i64 4] w fun e w' => e = .returned (.tuple #[portDev B, .bool true]) ∧ Below w.heap.size w w' := by
  have H0 : Hid (∀ W, Calls Try.prog 81 #[.int .u32 a] W fun e w' => e = .returned (.bool true) ∧ w' = W) := fun W => by
    have := isport_any a W
    rwa [h0] at this
  clear h0
  have HD : Hid (∀ W, BusC W B R C A off code → Calls Try.prog 68 #[.pointer (some ⟨B, 0, none⟩)] W fun e w' => e = .returned (.slice (some ⟨W.heap.size, 0, none⟩) 3 3) ∧ w'.heap[W.heap.size]? = some (.cells (devC B A) 89 (0, 0)) ∧ Below W.heap.size W w') := fun W hW => devices_any W hW
  have HB := Lib.hid h
  clear h
  obtain ⟨hs1, hs2, hs3, hs4⟩ := dev_start w
  obtain ⟨W0, hW0⟩ : ∃ W0, W0 = ((w.alloc (.cells #[.nilFunc, .nilFunc, .nilFunc] 89)).alloc (.cells #[.nilFunc, .nilFunc, .nilFunc] 89)) := ⟨_, rfl⟩
  rw [← hW0] at hs1 hs2 hs3 hs4
  have HS := Lib.hid hs1
  have HS2 := Lib.hid hs2
  have HB0 := Lib.hid hs3
  have HD0 := Lib.hid hs4
  have HW0 := Lib.hid hW0
  clear hW0 hs1 hs2 hs3 hs4
  go_enter Try.func41, Try.ntmps41
  go_wp2_with fail
  go_step3
  go_wp2_with fail
  rw [← HW0.out]
  go_step3
  go_wp2_with fail
  refine (HD.out W0 (HB.out.on HB0.out)).mono ?_
  rintro e w1 ⟨rfl, hd1, hb1⟩
  have HT1 : Hid (DevT w B A W0.heap.size w1) := ⟨hd1, by rw [hb1.block _ HD0.out]; exact HS.out, by rw [hb1.block _ (by have := HD0.out; omega)]; exact HS2.out, HD0.out, HB0.out.trans (hb1.mono HB0.out.size)⟩
  clear hd1 hb1 HS HS2 HB0 HD0 HW0 HD HB
  generalize W0.heap.size = D at *
  obtain ⟨⟨c0, c1, c2⟩, ⟨c3, c4, c5⟩, c6, c7, c8⟩ := dev_cells HT1.out.1
  obtain ⟨⟨x0, x1, x2⟩, y0, y1, y2⟩ := three_cells HT1.out.2.1
  obtain ⟨⟨r0, r1, r2⟩, u0, u1, u2⟩ := three_cells HT1.out.2.2.1
  have hlt : w.heap.size + 1 < w1.heap.size := (Array.getElem?_eq_some_iff.1 HT1.out.2.1).1
  have hlt0 : w.heap.size < w1.heap.size := by omega
  have hlD : D < w1.heap.size := (Array.getElem?_eq_some_iff.1 HT1.out.1).1
  go_wp2_with fail
  refine wp_loop_rounds 4 ?_
  rw [rounds_succ]
  go_wp2_with fail
  have HT2 := Lib.hid (HT1.out.alloc (.cells #[fnV 81, mtV 82 B, mtV 83 B] 89))
  have HE2 : Hid ((w1.alloc (.cells #[fnV 81, mtV 82 B, mtV 83 B] 89)).heap[w1.heap.size]? = some (.cells #[fnV 81, mtV 82 B, mtV 83 B] 89 (0, 0))) := heap_alloc_new _ _
  clear c0 c1 c2 c3 c4 c5 c6 c7 c8 x0 x1 x2 y0 y1 y2 r0 r1 r2 u0 u1 u2 hlt hlt0 hlD
  generalize w1.alloc (.cells #[fnV 81, mtV 82 B, mtV 83 B] 89) = w2 at *
  obtain ⟨E2, hE2⟩ : ∃ E, w1.heap.size = E := ⟨_, rfl⟩
  rw [hE2] at HE2 ⊢
  clear hE2
  refine (H0.out w2).mono ?_
  rintro e w' ⟨rfl, hw⟩
  have hw := hw.symm
  subst hw
  obtain ⟨⟨c0, c1, c2⟩, ⟨c3, c4, c5⟩, c6, c7, c8⟩ := dev_cells HT2.out.1
  obtain ⟨⟨x0, x1, x2⟩, y0, y1, y2⟩ := three_cells HT2.out.2.1
  obtain ⟨⟨r0, r1, r2⟩, u0, u1, u2⟩ := three_cells HT2.out.2.2.1
  have hlt : w.heap.size + 1 < w2.heap.size := (Array.getElem?_eq_some_iff.1 HT2.out.2.1).1
  have hlt0 : w.heap.size < w2.heap.size := by omega
  have hlD : D < w2.heap.size := (Array.getElem?_eq_some_iff.1 HT2.out.1).1
  obtain ⟨⟨e0, e1, e2⟩, -⟩ := three_cells HE2.out
  go_wp2
  rw [Exit.noGoto_ret]
  refine bodyPost_ret (v := .tuple #[portDev B, .bool true]) (by simp [results, Try.results41, go_sem, r0, r1, r2, hlt0]) rfl ⟨rfl, ?_⟩
  have hb := HT2.out.2.2.2.2
  have hb2 := hb.trans ((bar3 (w.heap.size + 1) w2 (fnV 81) (mtV 82 B) (mtV 83 B)).below (by omega) hb.size)
  exact hb2.trans ((bar3 w.heap.size _ _ _ _).below (Nat.le_refl _) hb2.size)

set_option maxHeartbeats 3200000 in
theorem device_con {B R C A : Nat} {off : Bool} {code : Int} (a : Int) (w : World) (h : BusC w B R C A off code) (h0 : (a == 1048576) = false) (h1 : (a == 268435456 || a == 268435460) = true) :
    Calls Try.prog 41 #[.pointer (some ⟨B, 0, none⟩), .int .u32 a, .int .i64 4] w fun e w' => e = .returned (.tuple #[conDev B, .bool true]) ∧ Below w.heap.size w w' := by
  have H0 : Hid (∀ W, Calls Try.prog 81 #[.int .u32 a] W fun e w' => e = .returned (.bool false) ∧ w' = W) := fun W => by
    have := isport_any a W
    rwa [h0] at this
  have H1 : Hid (∀ W, Calls Try.prog 84 #[.int .u32 a] W fun e w' => e = .returned (.bool true) ∧ w' = W) := fun W => by
    have := iscon_any a W
    rwa [h1] at this
  clear h0 h1
  have HD : Hid (∀ W, BusC W B R C A off code → Calls Try.prog 68 #[.pointer (some ⟨B, 0, none⟩)] W fun e w' => e = .returned (.slice (some ⟨W.heap.size, 0, none⟩) 3 3) ∧ w'.heap[W.heap.size]? = some (.cells (devC B A) 89 (0, 0)) ∧ Below W.heap.size W w') := fun W hW => devices_any W hW
  have HB := Lib.hid h
  clear h
  obtain ⟨hs1, hs2, hs3, hs4⟩ := dev_start w
  obtain ⟨W0, hW0⟩ : ∃ W0, W0 = ((w.alloc (.cells #[.nilFunc, .nilFunc, .nilFunc] 89)).alloc (.cells #[.nilFunc, .nilFunc, .nilFunc] 89)) := ⟨_, rfl⟩
  rw [← hW0] at hs1 hs2 hs3 hs4
  have HS := Lib.hid hs1
  have HS2 := Lib.hid hs2
  have HB0 := Lib.hid hs3
  have HD0 := Lib.hid hs4
  have HW0 := Lib.hid hW0
  clear hW0 hs1 hs2 hs3 hs4
  go_enter Try.func41, Try.ntmps41
  go_wp2_with fail
  go_step3
  go_wp2_with fail
  rw [← HW0.out]
  go_step3
  go_wp2_with fail
  refine (HD.out W0 (HB.out.on HB0.out)).mono ?_
  rintro e w1 ⟨rfl, hd1, hb1⟩
  have HT1 : Hid (DevT w B A W0.heap.size w1) := ⟨hd1, by rw [hb1.block _ HD0.out]; exact HS.out, by rw [hb1.block _ (by have := HD0.out; omega)]; exact HS2.out, HD0.out, HB0.out.trans (hb1.mono HB0.out.size)⟩
  clear hd1 hb1 HS HS2 HB0 HD0 HW0 HD HB
  generalize W0.heap.size = D at *
  obtain ⟨⟨c0, c1, c2⟩, ⟨c3, c4, c5⟩, c6, c7, c8⟩ := dev_cells HT1.out.1
  obtain ⟨⟨x0, x1, x2⟩, y0, y1, y2⟩ := three_cells HT1.out.2.1
  obtain ⟨⟨r0, r1, r2⟩, u0, u1, u2⟩ := three_cells HT1.out.2.2.1
  have hlt : w.heap.size + 1 < w1.heap.size := (Array.getElem?_eq_some_iff.1 HT1.out.2.1).1
  have hlt0 : w.heap.size < w1.heap.size := by omega
  have hlD : D < w1.heap.size := (Array.getElem?_eq_some_iff.1 HT1.out.1).1
  go_wp2_with fail
  refine wp_loop_rounds 4 ?_
  rw [rounds_succ]
  go_wp2_with fail
  have HT2 := Lib.hid (HT1.out.alloc (.cells #[fnV 81, mtV 82 B, mtV 83 B] 89))
  have HE2 : Hid ((w1.alloc (.cells #[fnV 81, mtV 82 B, mtV 83 B] 89)).heap[w1.heap.size]? = some (.cells #[fnV 81, mtV 82 B, mtV 83 B] 89 (0, 0))) := heap_alloc_new _ _
  clear c0 c1 c2 c3 c4 c5 c6 c7 c8 x0 x1 x2 y0 y1 y2 r0 r1 r2 u0 u1 u2 hlt hlt0 hlD
  generalize w1.alloc (.cells #[fnV 81, mtV 82 B, mtV 83 B] 89) = w2 at *
  obtain ⟨E2, hE2⟩ : ∃ E, w1.heap.size = E := ⟨_, rfl⟩
  rw [hE2] at HE2 ⊢
  clear hE2
  refine (H0.out w2).mono ?_
  rintro e w' ⟨rfl, hw⟩
  have hw := hw.symm
  subst hw
  obtain ⟨⟨c0, c1, c2⟩, ⟨c3, c4, c5⟩, c6, c7, c8⟩ := dev_cells HT2.out.1
  obtain ⟨⟨x0, x1, x2⟩, y0, y1, y2⟩ := three_cells HT2.out.2.1
  obtain ⟨⟨r0, r1, r2⟩, u0, u1, u2⟩ := three_cells HT2.out.2.2.1
  have hlt : w.heap.size + 1 < w2.heap.size := (Array.getElem?_eq_some_iff.1 HT2.out.2.1).1
  have hlt0 : w.heap.size < w2.heap.size := by omega
  have hlD : D < w2.heap.size := (Array.getElem?_eq_some_iff.1 HT2.out.1).1
  go_wp2_with fail
  rw [rounds_succ]
  go_wp2_with fail
  have HT3 := Lib.hid (HT2.out.alloc (.cells #[fnV 84, mtV 85 B, mtV 86 B] 89))
  have HE3 : Hid ((w2.alloc (.cells #[fnV 84, mtV 85 B, mtV 86 B] 89)).heap[w2.heap.size]? = some (.cells #[fnV 84, mtV 85 B, mtV 86 B] 89 (0, 0))) := heap_alloc_new _ _
  clear c0 c1 c2 c3 c4 c5 c6 c7 c8 x0 x1 x2 y0 y1 y2 r0 r1 r2 u0 u1 u2 hlt hlt0 hlD
  generalize w2.alloc (.cells #[fnV 84, mtV 85 B, mtV 86 B] 89) = w3 at *
  obtain ⟨E3, hE3⟩ : ∃ E, w2.heap.size = E := ⟨_, rfl⟩
  rw [hE3] at HE3 ⊢
  clear hE3
  refine (H1.out w3).mono ?_
  rintro e w' ⟨rfl, hw⟩
  have hw := hw.symm
  subst hw
  obtain ⟨⟨c0, c1, c2⟩, ⟨c3, c4, c5⟩, c6, c7, c8⟩ := dev_cells HT3.out.1
  obtain ⟨⟨x0, x1, x2⟩, y0, y1, y2⟩ := three_cells HT3.out.2.1
  obtain ⟨⟨r0, r1, r2⟩, u0, u1, u2⟩ := three_cells HT3.out.2.2.1
  have hlt : w.heap.size + 1 < w3.heap.size := (Array.getElem?_eq_some_iff.1 HT3.out.2.1).1
  have hlt0 : w.heap.size < w3.heap.size := by omega
  have hlD : D < w3.heap.size := (Array.getElem?_eq_some_iff.1 HT3.out.1).1
  obtain ⟨⟨e0, e1, e2⟩, -⟩ := three_cells HE3.out
  go_wp2
  rw [Exit.noGoto_ret]
  refine bodyPost_ret (v := .tuple #[conDev B, .bool true]) (by simp [results, Try.results41, go_sem, r0, r1, r2, hlt0]) rfl ⟨rfl, ?_⟩
  have hb := HT3.out.2.2.2.2
  have hb2 := hb.trans ((bar3 (w.heap.size + 1) w3 (fnV 84) (mtV 85 B) (mtV 86 B)).below (by omega) hb.size)
  exact hb2.trans ((bar3 w.heap.size _ _ _ _).below (Nat.le_refl _) hb2.size)

set_option maxHeartbeats 3200000 in
theorem device_tim {B R C A : Nat} {off : Bool} {code : Int} (a : Int) (w : World) (h : BusC w B R C A off code) (h0 : (a == 1048576) = false) (h1 : (a == 268435456 || a == 268435460) = false) (h2 : hasT a = true) :
    Calls Try.prog 41 #[.pointer (some ⟨B, 0, none⟩), .int .u32 a, .int .i64 4] w fun e w' => e = .returned (.tuple #[timDev A, .bool true]) ∧ Below w.heap.size w w' := by
  have H0 : Hid (∀ W, Calls Try.prog 81 #[.int .u32 a] W fun e w' => e = .returned (.bool false) ∧ w' = W) := fun W => by
    have := isport_any a W
    rwa [h0] at this
  have H1 : Hid (∀ W, Calls Try.prog 84 #[.int .u32 a] W fun e w' => e = .returned (.bool false) ∧ w' = W) := fun W => by
    have := iscon_any a W
    rwa [h1] at this
  have H2 : Hid (∀ W, Calls Try.prog 87 #[.int .u32 a] W fun e w' => e = .returned (.bool true) ∧ w' = W) := fun W => by
    have := thas_any a W
    rwa [h2] at this
  clear h0 h1 h2
  have HD : Hid (∀ W, BusC W B R C A off code → Calls Try.prog 68 #[.pointer (some ⟨B, 0, none⟩)] W fun e w' => e = .returned (.slice (some ⟨W.heap.size, 0, none⟩) 3 3) ∧ w'.heap[W.heap.size]? = some (.cells (devC B A) 89 (0, 0)) ∧ Below W.heap.size W w') := fun W hW => devices_any W hW
  have HB := Lib.hid h
  clear h
  obtain ⟨hs1, hs2, hs3, hs4⟩ := dev_start w
  obtain ⟨W0, hW0⟩ : ∃ W0, W0 = ((w.alloc (.cells #[.nilFunc, .nilFunc, .nilFunc] 89)).alloc (.cells #[.nilFunc, .nilFunc, .nilFunc] 89)) := ⟨_, rfl⟩
  rw [← hW0] at hs1 hs2 hs3 hs4
  have HS := Lib.hid hs1
  have HS2 := Lib.hid hs2
  have HB0 := Lib.hid hs3
  have HD0 := Lib.hid hs4
  have HW0 := Lib.hid hW0
  clear hW0 hs1 hs2 hs3 hs4
  go_enter Try.func41, Try.ntmps41
  go_wp2_with fail
  go_step3
  go_wp2_with fail
  rw [← HW0.out]
  go_step3
  go_wp2_with fail
  refine (HD.out W0 (HB.out.on HB0.out)).mono ?_
  rintro e w1 ⟨rfl, hd1, hb1⟩
  have HT1 : Hid (DevT w B A W0.heap.size w1) := ⟨hd1, by rw [hb1.block _ HD0.out]; exact HS.out, by rw [hb1.block _ (by have := HD0.out; omega)]; exact HS2.out, HD0.out, HB0.out.trans (hb1.mono HB0.out.size)⟩
  clear hd1 hb1 HS HS2 HB0 HD0 HW0 HD HB
  generalize W0.heap.size = D at *
  obtain ⟨⟨c0, c1, c2⟩, ⟨c3, c4, c5⟩, c6, c7, c8⟩ := dev_cells HT1.out.1
  obtain ⟨⟨x0, x1, x2⟩, y0, y1, y2⟩ := three_cells HT1.out.2.1
  obtain ⟨⟨r0, r1, r2⟩, u0, u1, u2⟩ := three_cells HT1.out.2.2.1
  have hlt : w.heap.size + 1 < w1.heap.size := (Array.getElem?_eq_some_iff.1 HT1.out.2.1).1
  have hlt0 : w.heap.size < w1.heap.size := by omega
  have hlD : D < w1.heap.size := (Array.getElem?_eq_some_iff.1 HT1.out.1).1
  go_wp2_with fail
  refine wp_loop_rounds 4 ?_
  rw [rounds_succ]
  go_wp2_with fail
  have HT2 := Lib.hid (HT1.out.alloc (.cells #[fnV 81, mtV 82 B, mtV 83 B] 89))
  have HE2 : Hid ((w1.alloc (.cells #[fnV 81, mtV 82 B, mtV 83 B] 89)).heap[w1.heap.size]? = some (.cells #[fnV 81, mtV 82 B, mtV 83 B] 89 (0, 0))) := heap_alloc_new _ _
  clear c0 c1 c2 c3 c4 c5 c6 c7 c8 x0 x1 x2 y0 y1 y2 r0 r1 r2 u0 u1 u2 hlt hlt0 hlD
  generalize w1.alloc (.cells #[fnV 81, mtV 82 B, mtV 83 B] 89) = w2 at *
  obtain ⟨E2, hE2⟩ : ∃ E, w1.heap.size = E := ⟨_, rfl⟩
  rw [hE2] at HE2 ⊢
  clear hE2
  refine (H0.out w2).mono ?_
  rintro e w' ⟨rfl, hw⟩
  have hw := hw.symm
  subst hw
  obtain ⟨⟨c0, c1, c2⟩, ⟨c3, c4, c5⟩, c6, c7, c8⟩ := dev_cells HT2.out.1
  obtain ⟨⟨x0, x1, x2⟩, y0, y1, y2⟩ := three_cells HT2.out.2.1
  obtain ⟨⟨r0, r1, r2⟩, u0, u1, u2⟩ := three_cells HT2.out.2.2.1
  have hlt : w.heap.size + 1 < w2.heap.size := (Array.getElem?_eq_some_iff.1 HT2.out.2.1).1
  have hlt0 : w.heap.size < w2.heap.size := by omega
  have hlD : D < w2.heap.size := (Array.getElem?_eq_some_iff.1 HT2.out.1).1
  go_wp2_with fail
  rw [rounds_succ]
  go_wp2_with fail
  have HT3 := Lib.hid (HT2.out.alloc (.cells #[fnV 84, mtV 85 B, mtV 86 B] 89))
  have HE3 : Hid ((w2.alloc (.cells #[fnV 84, mtV 85 B, mtV 86 B] 89)).heap[w2.heap.size]? = some (.cells #[fnV 84, mtV 85 B, mtV 86 B] 89 (0, 0))) := heap_alloc_new _ _
  clear c0 c1 c2 c3 c4 c5 c6 c7 c8 x0 x1 x2 y0 y1 y2 r0 r1 r2 u0 u1 u2 hlt hlt0 hlD
  generalize w2.alloc (.cells #[fnV 84, mtV 85 B, mtV 86 B] 89) = w3 at *
  obtain ⟨E3, hE3⟩ : ∃ E, w2.heap.size = E := ⟨_, rfl⟩
  rw [hE3] at HE3 ⊢
  clear hE3
  refine (H1.out w3).mono ?_
  rintro e w' ⟨rfl, hw⟩
  have hw := hw.symm
  subst hw
  obtain ⟨⟨c0, c1, c2⟩, ⟨c3, c4, c5⟩, c6, c7, c8⟩ := dev_cells HT3.out.1
  obtain ⟨⟨x0, x1, x2⟩, y0, y1, y2⟩ := three_cells HT3.out.2.1
  obtain ⟨⟨r0, r1, r2⟩, u0, u1, u2⟩ := three_cells HT3.out.2.2.1
  have hlt : w.heap.size + 1 < w3.heap.size := (Array.getElem?_eq_some_iff.1 HT3.out.2.1).1
  have hlt0 : w.heap.size < w3.heap.size := by omega
  have hlD : D < w3.heap.size := (Array.getElem?_eq_some_iff.1 HT3.out.1).1
  go_wp2_with fail
  rw [rounds_succ]
  go_wp2_with fail
  have HT4 := Lib.hid (HT3.out.alloc (.cells #[fnV 87, mtV 88 A, mtV 89 A] 89))
  have HE4 : Hid ((w3.alloc (.cells #[fnV 87, mtV 88 A, mtV 89 A] 89)).heap[w3.heap.size]? = some (.cells #[fnV 87, mtV 88 A, mtV 89 A] 89 (0, 0))) := heap_alloc_new _ _
  clear c0 c1 c2 c3 c4 c5 c6 c7 c8 x0 x1 x2 y0 y1 y2 r0 r1 r2 u0 u1 u2 hlt hlt0 hlD
  generalize w3.alloc (.cells #[fnV 87, mtV 88 A, mtV 89 A] 89) = w4 at *
  obtain ⟨E4, hE4⟩ : ∃ E, w3.heap.size = E := ⟨_, rfl⟩
  rw [hE4] at HE4 ⊢
  clear hE4
  refine (H2.out w4).mono ?_
  rintro e w' ⟨rfl, hw⟩
  have hw := hw.symm
  subst hw
  obtain ⟨⟨c0, c1, c2⟩, ⟨c3, c4, c5⟩, c6, c7, c8⟩ := dev_cells HT4.out.1
  obtain ⟨⟨x0, x1, x2⟩, y0, y1, y2⟩ := three_cells HT4.out.2.1
  obtain ⟨⟨r0, r1, r2⟩, u0, u1, u2⟩ := three_cells HT4.out.2.2.1
  have hlt : w.heap.size + 1 < w4.heap.size := (Array.getElem?_eq_some_iff.1 HT4.out.2.1).1
  have hlt0 : w.heap.size < w4.heap.size := by omega
  have hlD : D < w4.heap.size := (Array.getElem?_eq_some_iff.1 HT4.out.1).1
  obtain ⟨⟨e0, e1, e2⟩, -⟩ := three_cells HE4.out
  go_wp2
  rw [Exit.noGoto_ret]
  refine bodyPost_ret (v := .tuple #[timDev A, .bool true]) (by simp [results, Try.results41, go_sem, r0, r1, r2, hlt0]) rfl ⟨rfl, ?_⟩
  have hb := HT4.out.2.2.2.2
  have hb2 := hb.trans ((bar3 (w.heap.size + 1) w4 (fnV 87) (mtV 88 A) (mtV 89 A)).below (by omega) hb.size)
  exact hb2.trans ((bar3 w.heap.size _ _ _ _).below (Nat.le_refl _) hb2.size)

set_option maxHeartbeats 3200000 in
theorem device_none {B R C A : Nat} {off : Bool} {code : Int} (a : Int) (w : World) (h : BusC w B R C A off code) (h0 : (a == 1048576) = false) (h1 : (a == 268435456 || a == 268435460) = false) (h2 : hasT a = false) :
    Calls Try.prog 41 #[.pointer (some ⟨B, 0, none⟩), .int .u32 a, .int .i64 4] w fun e w' => e = .returned (.tuple #[noDev, .bool false]) ∧ Below w.heap.size w w' := by
  have H0 : Hid (∀ W, Calls Try.prog 81 #[.int .u32 a] W fun e w' => e = .returned (.bool false) ∧ w' = W) := fun W => by
    have := isport_any a W
    rwa [h0] at this
  have H1 : Hid (∀ W, Calls Try.prog 84 #[.int .u32 a] W fun e w' => e = .returned (.bool false) ∧ w' = W) := fun W => by
    have := iscon_any a W
    rwa [h1] at this
  have H2 : Hid (∀ W, Calls Try.prog 87 #[.int .u32 a] W fun e w' => e = .returned (.bool false) ∧ w' = W) := fun W => by
    have := thas_any a W
    rwa [h2] at this
  clear h0 h1 h2
  have HD : Hid (∀ W, BusC W B R C A off code → Calls Try.prog 68 #[.pointer (some ⟨B, 0, none⟩)] W fun e w' => e = .returned (.slice (some ⟨W.heap.size, 0, none⟩) 3 3) ∧ w'.heap[W.heap.size]? = some (.cells (devC B A) 89 (0, 0)) ∧ Below W.heap.size W w') := fun W hW => devices_any W hW
  have HB := Lib.hid h
  clear h
  obtain ⟨hs1, hs2, hs3, hs4⟩ := dev_start w
  obtain ⟨W0, hW0⟩ : ∃ W0, W0 = ((w.alloc (.cells #[.nilFunc, .nilFunc, .nilFunc] 89)).alloc (.cells #[.nilFunc, .nilFunc, .nilFunc] 89)) := ⟨_, rfl⟩
  rw [← hW0] at hs1 hs2 hs3 hs4
  have HS := Lib.hid hs1
  have HS2 := Lib.hid hs2
  have HB0 := Lib.hid hs3
  have HD0 := Lib.hid hs4
  have HW0 := Lib.hid hW0
  clear hW0 hs1 hs2 hs3 hs4
  go_enter Try.func41, Try.ntmps41
  go_wp2_with fail
  go_step3
  go_wp2_with fail
  rw [← HW0.out]
  go_step3
  go_wp2_with fail
  refine (HD.out W0 (HB.out.on HB0.out)).mono ?_
  rintro e w1 ⟨rfl, hd1, hb1⟩
  have HT1 : Hid (DevT w B A W0.heap.size w1) := ⟨hd1, by rw [hb1.block _ HD0.out]; exact HS.out, by rw [hb1.block _ (by have := HD0.out; omega)]; exact HS2.out, HD0.out, HB0.out.trans (hb1.mono HB0.out.size)⟩
  clear hd1 hb1 HS HS2 HB0 HD0 HW0 HD HB
  generalize W0.heap.size = D at *
  obtain ⟨⟨c0, c1, c2⟩, ⟨c3, c4, c5⟩, c6, c7, c8⟩ := dev_cells HT1.out.1
  obtain ⟨⟨x0, x1, x2⟩, y0, y1, y2⟩ := three_cells HT1.out.2.1
  obtain ⟨⟨r0, r1, r2⟩, u0, u1, u2⟩ := three_cells HT1.out.2.2.1
  have hlt : w.heap.size + 1 < w1.heap.size := (Array.getElem?_eq_some_iff.1 HT1.out.2.1).1
  have hlt0 : w.heap.size < w1.heap.size := by omega
  have hlD : D < w1.heap.size := (Array.getElem?_eq_some_iff.1 HT1.out.1).1
  go_wp2_with fail
  refine wp_loop_rounds 4 ?_
  rw [rounds_succ]
  go_wp2_with fail
  have HT2 := Lib.hid (HT1.out.alloc (.cells #[fnV 81, mtV 82 B, mtV 83 B] 89))
  have HE2 : Hid ((w1.alloc (.cells #[fnV 81, mtV 82 B, mtV 83 B] 89)).heap[w1.heap.size]? = some (.cells #[fnV 81, mtV 82 B, mtV 83 B] 89 (0, 0))) := heap_alloc_new _ _
  clear c0 c1 c2 c3 c4 c5 c6 c7 c8 x0 x1 x2 y0 y1 y2 r0 r1 r2 u0 u1 u2 hlt hlt0 hlD
  generalize w1.alloc (.cells #[fnV 81, mtV 82 B, mtV 83 B] 89) = w2 at *
  obtain ⟨E2, hE2⟩ : ∃ E, w1.heap.size = E := ⟨_, rfl⟩
  rw [hE2] at HE2 ⊢
  clear hE2
  refine (H0.out w2).mono ?_
  rintro e w' ⟨rfl, hw⟩
  have hw := hw.symm
  subst hw
  obtain ⟨⟨c0, c1, c2⟩, ⟨c3, c4, c5⟩, c6, c7, c8⟩ := dev_cells HT2.out.1
  obtain ⟨⟨x0, x1, x2⟩, y0, y1, y2⟩ := three_cells HT2.out.2.1
  obtain ⟨⟨r0, r1, r2⟩, u0, u1, u2⟩ := three_cells HT2.out.2.2.1
  have hlt : w.heap.size + 1 < w2.heap.size := (Array.getElem?_eq_some_iff.1 HT2.out.2.1).1
  have hlt0 : w.heap.size < w2.heap.size := by omega
  have hlD : D < w2.heap.size := (Array.getElem?_eq_some_iff.1 HT2.out.1).1
  go_wp2_with fail
  rw [rounds_succ]
  go_wp2_with fail
  have HT3 := Lib.hid (HT2.out.alloc (.cells #[fnV 84, mtV 85 B, mtV 86 B] 89))
  have HE3 : Hid ((w2.alloc (.cells #[fnV 84, mtV 85 B, mtV 86 B] 89)).heap[w2.heap.size]? = some (.cells #[fnV 84, mtV 85 B, mtV 86 B] 89 (0, 0))) := heap_alloc_new _ _
  clear c0 c1 c2 c3 c4 c5 c6 c7 c8 x0 x1 x2 y0 y1 y2 r0 r1 r2 u0 u1 u2 hlt hlt0 hlD
  generalize w2.alloc (.cells #[fnV 84, mtV 85 B, mtV 86 B] 89) = w3 at *
  obtain ⟨E3, hE3⟩ : ∃ E, w2.heap.size = E := ⟨_, rfl⟩
  rw [hE3] at HE3 ⊢
  clear hE3
  refine (H1.out w3).mono ?_
  rintro e w' ⟨rfl, hw⟩
  have hw := hw.symm
  subst hw
  obtain ⟨⟨c0, c1, c2⟩, ⟨c3, c4, c5⟩, c6, c7, c8⟩ := dev_cells HT3.out.1
  obtain ⟨⟨x0, x1, x2⟩, y0, y1, y2⟩ := three_cells HT3.out.2.1
  obtain ⟨⟨r0, r1, r2⟩, u0, u1, u2⟩ := three_cells HT3.out.2.2.1
  have hlt : w.heap.size + 1 < w3.heap.size := (Array.getElem?_eq_some_iff.1 HT3.out.2.1).1
  have hlt0 : w.heap.size < w3.heap.size := by omega
  have hlD : D < w3.heap.size := (Array.getElem?_eq_some_iff.1 HT3.out.1).1
  go_wp2_with fail
  rw [rounds_succ]
  go_wp2_with fail
  have HT4 := Lib.hid (HT3.out.alloc (.cells #[fnV 87, mtV 88 A, mtV 89 A] 89))
  have HE4 : Hid ((w3.alloc (.cells #[fnV 87, mtV 88 A, mtV 89 A] 89)).heap[w3.heap.size]? = some (.cells #[fnV 87, mtV 88 A, mtV 89 A] 89 (0, 0))) := heap_alloc_new _ _
  clear c0 c1 c2 c3 c4 c5 c6 c7 c8 x0 x1 x2 y0 y1 y2 r0 r1 r2 u0 u1 u2 hlt hlt0 hlD
  generalize w3.alloc (.cells #[fnV 87, mtV 88 A, mtV 89 A] 89) = w4 at *
  obtain ⟨E4, hE4⟩ : ∃ E, w3.heap.size = E := ⟨_, rfl⟩
  rw [hE4] at HE4 ⊢
  clear hE4
  refine (H2.out w4).mono ?_
  rintro e w' ⟨rfl, hw⟩
  have hw := hw.symm
  subst hw
  obtain ⟨⟨c0, c1, c2⟩, ⟨c3, c4, c5⟩, c6, c7, c8⟩ := dev_cells HT4.out.1
  obtain ⟨⟨x0, x1, x2⟩, y0, y1, y2⟩ := three_cells HT4.out.2.1
  obtain ⟨⟨r0, r1, r2⟩, u0, u1, u2⟩ := three_cells HT4.out.2.2.1
  have hlt : w.heap.size + 1 < w4.heap.size := (Array.getElem?_eq_some_iff.1 HT4.out.2.1).1
  have hlt0 : w.heap.size < w4.heap.size := by omega
  have hlD : D < w4.heap.size := (Array.getElem?_eq_some_iff.1 HT4.out.1).1
  go_wp2_with fail
  rw [rounds_succ]
  go_wp2
  rw [Exit.noGoto_ret]
  refine bodyPost_ret (v := .tuple #[noDev, .bool false]) (by simp [results, Try.results41, go_sem, r0, r1, r2, hlt0]) rfl ⟨rfl, ?_⟩
  exact (HT4.out.2.2.2.2).trans ((bar3 w.heap.size w4 _ _ _).below (Nat.le_refl _) HT4.out.2.2.2.2.size)
end Go.Proofs.Ytkbccccjjlkgbaa
