/- My texts BusDevice, BusSt, RamGo4, RamRef, BusRefA, RamPut, ConNew, ConRef, ConRIO, Whole, bound into one. -/
import Derived.Test.YtkbccccjjlkgbaaB2
import Derived.Laws.EntriesVeiled
import Derived.Test.YtkbccccjjlkgbaaB1
import Derived.Deep.WholeRow
/- Layer 14: which device has an address. -/
namespace Go.Proofs.Ytkbccccjjlkgbaa
open Go.RowKit
set_option linter.unusedVariables false
set_option maxRecDepth 100000
set_option linter.unusedSimpArgs false

/-- No device: three functions that are not there. -/
abbrev noDev : Value := .agg #[.nilFunc, .nilFunc, .nilFunc]
abbrev portDev (B : Nat) : Value := .agg #[fnV 81, mtV 82 B, mtV 83 B]
abbrev conDev (B : Nat) : Value := .agg #[fnV 84, mtV 85 B, mtV 86 B]
abbrev timDev (A : Nat) : Value := .agg #[fnV 87, mtV 88 A, mtV 89 A]

/-- The table, and the two variables' blocks, ahead of a round. -/
def DevT (w : World) (B A D : Nat) (W : World) : Prop :=
  W.heap[D]? = some (.cells (devC B A) 89 (0, 0)) ∧ W.heap[w.heap.size + 1]? = some (.cells #[.nilFunc, .nilFunc, .nilFunc] 89 (0, 0)) ∧ W.heap[w.heap.size]? = some (.cells #[.nilFunc, .nilFunc, .nilFunc] 89 (0, 0)) ∧ w.heap.size + 1 < D ∧ Below w.heap.size w W
theorem DevT.on {w W W' : World} {B A D : Nat} (h : DevT w B A D W) (hb : Below W.heap.size W W') : DevT w B A D W' := by
  obtain ⟨h1, h2, h3, h4, h5⟩ := h
  have l1 := (Array.getElem?_eq_some_iff.1 h1).1
  exact ⟨by rw [hb.block _ l1]; exact h1, by rw [hb.block _ (by omega)]; exact h2, by rw [hb.block _ (by omega)]; exact h3, h4, h5.trans (hb.mono h5.size)⟩
theorem DevT.alloc {w W : World} {B A D : Nat} (h : DevT w B A D W) (o : Obj) : DevT w B A D (W.alloc o) := h.on ((Below.refl _ _).alloc (Nat.le_refl _) _)
theorem dev_cells {w : World} {B A D : Nat} (h : w.heap[D]? = some (.cells (devC B A) 89 (0, 0))) :
    (w.cell? ⟨D, 0, none⟩ = some (fnV 81) ∧ w.cell? ⟨D, 1, none⟩ = some (mtV 82 B) ∧ w.cell? ⟨D, 2, none⟩ = some (mtV 83 B)) ∧
    (w.cell? ⟨D, 3, none⟩ = some (fnV 84) ∧ w.cell? ⟨D, 4, none⟩ = some (mtV 85 B) ∧ w.cell? ⟨D, 5, none⟩ = some (mtV 86 B)) ∧
    (w.cell? ⟨D, 6, none⟩ = some (fnV 87) ∧ w.cell? ⟨D, 7, none⟩ = some (mtV 88 A) ∧ w.cell? ⟨D, 8, none⟩ = some (mtV 89 A)) := by
  simp [World.cell?, h]
theorem dev_start (w : World) : ((w.alloc (.cells #[.nilFunc, .nilFunc, .nilFunc] 89)).alloc (.cells #[.nilFunc, .nilFunc, .nilFunc] 89)).heap[w.heap.size + 1]? = some (.cells #[.nilFunc, .nilFunc, .nilFunc] 89 (0, 0)) ∧
    ((w.alloc (.cells #[.nilFunc, .nilFunc, .nilFunc] 89)).alloc (.cells #[.nilFunc, .nilFunc, .nilFunc] 89)).heap[w.heap.size]? = some (.cells #[.nilFunc, .nilFunc, .nilFunc] 89 (0, 0)) ∧
    Below w.heap.size w ((w.alloc (.cells #[.nilFunc, .nilFunc, .nilFunc] 89)).alloc (.cells #[.nilFunc, .nilFunc, .nilFunc] 89)) ∧
    w.heap.size + 1 < ((w.alloc (.cells #[.nilFunc, .nilFunc, .nilFunc] 89)).alloc (.cells #[.nilFunc, .nilFunc, .nilFunc] 89)).heap.size := by
  refine ⟨?_, ?_, ((Below.refl _ _).alloc (Nat.le_refl _) _).alloc (by simp) _, by simp⟩
  · have := heap_alloc_new (w.alloc (.cells #[.nilFunc, .nilFunc, .nilFunc] 89)) (.cells #[.nilFunc, .nilFunc, .nilFunc] 89)
    simpa using this
  · rw [heap_alloc_old _ _ (by simp)]
    exact heap_alloc_new _ _

set_option maxHeartbeats 1600000 in
theorem device_width {B R C A : Nat} {off : Bool} {code : Int} (a n : Int) (w : World) (h : BusC w B R C A off code) (hn : n ≠ 4) :
    Calls Try.prog 41 #[.pointer (some ⟨B, 0, none⟩), .int .u32 a, .int .i64 n] w fun e w' => e = .returned (.tuple #[noDev, .bool false]) ∧ Below w.heap.size w w' := by
  have hn' : (n != 4) = true := bne_iff_ne.2 hn
  clear hn
  have HD : Hid (∀ W, BusC W B R C A off code → Calls Try.prog 68 #[.pointer (some ⟨B, 0, none⟩)] W fun e w' => e = .returned (.slice (some ⟨W.heap.size, 0, none⟩) 3 3) ∧ w'.heap[W.heap.size]? = some (.cells (devC B A) 89 (0, 0)) ∧ Below W.heap.size W w') := fun W hW => devices_any W hW
  have HB := Lib.hid h
  clear h
  obtain ⟨hs1, hs2, hs3, hs4⟩ := dev_start w
  obtain ⟨W0, hW0⟩ : ∃ W0, W0 = ((w.alloc (.cells #[.nilFunc, .nilFunc, .nilFunc] 89)).alloc (.cells #[.nilFunc, .nilFunc, .nilFunc] 89)) := ⟨_, rfl⟩
  rw [← hW0] at hs1 hs2 hs3 hs4
  have HS := Lib.hid hs1
  have HS2 := Lib.hid hs2
  have HB0 := Lib.hid hs3
  have HD0 := Lib.hid hs4
  have HW0 := Lib.hid hW0
  clear hW0 hs1 hs2 hs3 hs4
  go_enter Try.func41, Try.ntmps41
  go_wp2_with fail
  go_step3
  go_wp2_with fail
  rw [← HW0.out]
  go_step3
  go_wp2_with fail
  refine (HD.out W0 (HB.out.on HB0.out)).mono ?_
  rintro e w1 ⟨rfl, hd1, hb1⟩
  have HT1 : Hid (DevT w B A W0.heap.size w1) := ⟨hd1, by rw [hb1.block _ HD0.out]; exact HS.out, by rw [hb1.block _ (by have := HD0.out; omega)]; exact HS2.out, HD0.out, HB0.out.trans (hb1.mono HB0.out.size)⟩
  clear hd1 hb1 HS HS2 HB0 HD0 HW0 HD HB
  generalize W0.heap.size = D at *
  obtain ⟨⟨c0, c1, c2⟩, ⟨c3, c4, c5⟩, c6, c7, c8⟩ := dev_cells HT1.out.1
  obtain ⟨⟨x0, x1, x2⟩, y0, y1, y2⟩ := three_cells HT1.out.2.1
  obtain ⟨⟨r0, r1, r2⟩, u0, u1, u2⟩ := three_cells HT1.out.2.2.1
  have hlt : w.heap.size + 1 < w1.heap.size := (Array.getElem?_eq_some_iff.1 HT1.out.2.1).1
  have hlt0 : w.heap.size < w1.heap.size := by omega
  have hlD : D < w1.heap.size := (Array.getElem?_eq_some_iff.1 HT1.out.1).1
  go_wp2_with fail
  refine wp_loop_rounds 4 ?_
  rw [rounds_succ]
  go_wp2
  rw [Exit.noGoto_ret]
  refine bodyPost_ret (v := .tuple #[noDev, .bool false]) (by simp [results, Try.results41, go_sem, r0, r1, r2, hlt0]) rfl ⟨rfl, ?_⟩
  exact ((HT1.out.2.2.2.2).trans ((bar3 w.heap.size w1 _ _ _).below (Nat.le_refl _) HT1.out.2.2.2.2.size)).alloc (by simp [World.setCell]; exact HT1.out.2.2.2.2.size) _

set_option maxHeartbeats 3200000 in
theorem device_port {B R C A : Nat} {off : Bool} {code : Int} (a : Int) (w : World) (h : BusC w B R C A off code) (h0 : (a == 1048576) = true) :
    Calls Try.prog 41 #[.pointer (some ⟨B, 0, none⟩), .int .u32 a, .int .i64 4] w fun e w' => e = .returned (.tuple #[portDev B, .bool true]) ∧ Below w.heap.size w w' := by
  have H0 : Hid (∀ W, Calls Try.prog 81 #[.int .u32 a] W fun e w' => e = .returned (.bool true) ∧ w' = W) := fun W => by
    have := isport_any a W
    rwa [h0] at this
  clear h0
  have HD : Hid (∀ W, BusC W B R C A off code → Calls Try.prog 68 #[.pointer (some ⟨B, 0, none⟩)] W fun e w' => e = .returned (.slice (some ⟨W.heap.size, 0, none⟩) 3 3) ∧ w'.heap[W.heap.size]? = some (.cells (devC B A) 89 (0, 0)) ∧ Below W.heap.size W w') := fun W hW => devices_any W hW
  have HB := Lib.hid h
  clear h
  obtain ⟨hs1, hs2, hs3, hs4⟩ := dev_start w
  obtain ⟨W0, hW0⟩ : ∃ W0, W0 = ((w.alloc (.cells #[.nilFunc, .nilFunc, .nilFunc] 89)).alloc (.cells #[.nilFunc, .nilFunc, .nilFunc] 89)) := ⟨_, rfl⟩
  rw [← hW0] at hs1 hs2 hs3 hs4
  have HS := Lib.hid hs1
  have HS2 := Lib.hid hs2
  have HB0 := Lib.hid hs3
  have HD0 := Lib.hid hs4
  have HW0 := Lib.hid hW0
  clear hW0 hs1 hs2 hs3 hs4
  go_enter Try.func41, Try.ntmps41
  go_wp2_with fail
  go_step3
  go_wp2_with fail
  rw [← HW0.out]
  go_step3
  go_wp2_with fail
  refine (HD.out W0 (HB.out.on HB0.out)).mono ?_
  rintro e w1 ⟨rfl, hd1, hb1⟩
  have HT1 : Hid (DevT w B A W0.heap.size w1) := ⟨hd1, by rw [hb1.block _ HD0.out]; exact HS.out, by rw [hb1.block _ (by have := HD0.out; omega)]; exact HS2.out, HD0.out, HB0.out.trans (hb1.mono HB0.out.size)⟩
  clear hd1 hb1 HS HS2 HB0 HD0 HW0 HD HB
  generalize W0.heap.size = D at *
  obtain ⟨⟨c0, c1, c2⟩, ⟨c3, c4, c5⟩, c6, c7, c8⟩ := dev_cells HT1.out.1
  obtain ⟨⟨x0, x1, x2⟩, y0, y1, y2⟩ := three_cells HT1.out.2.1
  obtain ⟨⟨r0, r1, r2⟩, u0, u1, u2⟩ := three_cells HT1.out.2.2.1
  have hlt : w.heap.size + 1 < w1.heap.size := (Array.getElem?_eq_some_iff.1 HT1.out.2.1).1
  have hlt0 : w.heap.size < w1.heap.size := by omega
  have hlD : D < w1.heap.size := (Array.getElem?_eq_some_iff.1 HT1.out.1).1
  go_wp2_with fail
  refine wp_loop_rounds 4 ?_
  rw [rounds_succ]
  go_wp2_with fail
  have HT2 := Lib.hid (HT1.out.alloc (.cells #[fnV 81, mtV 82 B, mtV 83 B] 89))
  have HE2 : Hid ((w1.alloc (.cells #[fnV 81, mtV 82 B, mtV 83 B] 89)).heap[w1.heap.size]? = some (.cells #[fnV 81, mtV 82 B, mtV 83 B] 89 (0, 0))) := heap_alloc_new _ _
  clear c0 c1 c2 c3 c4 c5 c6 c7 c8 x0 x1 x2 y0 y1 y2 r0 r1 r2 u0 u1 u2 hlt hlt0 hlD
  generalize w1.alloc (.cells #[fnV 81, mtV 82 B, mtV 83 B] 89) = w2 at *
  obtain ⟨E2, hE2⟩ : ∃ E, w1.heap.size = E := ⟨_, rfl⟩
  rw [hE2] at HE2 ⊢
  clear hE2
  refine (H0.out w2).mono ?_
  rintro e w' ⟨rfl, hw⟩
  have hw := hw.symm
  subst hw
  obtain ⟨⟨c0, c1, c2⟩, ⟨c3, c4, c5⟩, c6, c7, c8⟩ := dev_cells HT2.out.1
  obtain ⟨⟨x0, x1, x2⟩, y0, y1, y2⟩ := three_cells HT2.out.2.1
  obtain ⟨⟨r0, r1, r2⟩, u0, u1, u2⟩ := three_cells HT2.out.2.2.1
  have hlt : w.heap.size + 1 < w2.heap.size := (Array.getElem?_eq_some_iff.1 HT2.out.2.1).1
  have hlt0 : w.heap.size < w2.heap.size := by omega
  have hlD : D < w2.heap.size := (Array.getElem?_eq_some_iff.1 HT2.out.1).1
  obtain ⟨⟨e0, e1, e2⟩, -⟩ := three_cells HE2.out
  go_wp2
  rw [Exit.noGoto_ret]
  refine bodyPost_ret (v := .tuple #[portDev B, .bool true]) (by simp [results, Try.results41, go_sem, r0, r1, r2, hlt0]) rfl ⟨rfl, ?_⟩
  have hb := HT2.out.2.2.2.2
  have hb2 := hb.trans ((bar3 (w.heap.size + 1) w2 (fnV 81) (mtV 82 B) (mtV 83 B)).below (by omega) hb.size)
  exact hb2.trans ((bar3 w.heap.size _ _ _ _).below (Nat.le_refl _) hb2.size)

set_option maxHeartbeats 3200000 in
theorem device_con {B R C A : Nat} {off : Bool} {code : Int} (a : Int) (w : World) (h : BusC w B R C A off code) (h0 : (a == 1048576) = false) (h1 : (a == 268435456 || a == 268435460) = true) :
    Calls Try.prog 41 #[.pointer (some ⟨B, 0, none⟩), .int .u32 a, .int .i64 4] w fun e w' => e = .returned (.tuple #[conDev B, .bool true]) ∧ Below w.heap.size w w' := by
  have H0 : Hid (∀ W, Calls Try.prog 81 #[.int .u32 a] W fun e w' => e = .returned (.bool false) ∧ w' = W) := fun W => by
    have := isport_any a W
    rwa [h0] at this
  have H1 : Hid (∀ W, Calls Try.prog 84 #[.int .u32 a] W fun e w' => e = .returned (.bool true) ∧ w' = W) := fun W => by
    have := iscon_any a W
    rwa [h1] at this
  clear h0 h1
  have HD : Hid (∀ W, BusC W B R C A off code → Calls Try.prog 68 #[.pointer (some ⟨B, 0, none⟩)] W fun e w' => e = .returned (.slice (some ⟨W.heap.size, 0, none⟩) 3 3) ∧ w'.heap[W.heap.size]? = some (.cells (devC B A) 89 (0, 0)) ∧ Below W.heap.size W w') := fun W hW => devices_any W hW
  have HB := Lib.hid h
  clear h
  obtain ⟨hs1, hs2, hs3, hs4⟩ := dev_start w
  obtain ⟨W0, hW0⟩ : ∃ W0, W0 = ((w.alloc (.cells #[.nilFunc, .nilFunc, .nilFunc] 89)).alloc (.cells #[.nilFunc, .nilFunc, .nilFunc] 89)) := ⟨_, rfl⟩
  rw [← hW0] at hs1 hs2 hs3 hs4
  have HS := Lib.hid hs1
  have HS2 := Lib.hid hs2
  have HB0 := Lib.hid hs3
  have HD0 := Lib.hid hs4
  have HW0 := Lib.hid hW0
  clear hW0 hs1 hs2 hs3 hs4
  go_enter Try.func41, Try.ntmps41
  go_wp2_with fail
  go_step3
  go_wp2_with fail
  rw [← HW0.out]
  go_step3
  go_wp2_with fail
  refine (HD.out W0 (HB.out.on HB0.out)).mono ?_
  rintro e w1 ⟨rfl, hd1, hb1⟩
  have HT1 : Hid (DevT w B A W0.heap.size w1) := ⟨hd1, by rw [hb1.block _ HD0.out]; exact HS.out, by rw [hb1.block _ (by have := HD0.out; omega)]; exact HS2.out, HD0.out, HB0.out.trans (hb1.mono HB0.out.size)⟩
  clear hd1 hb1 HS HS2 HB0 HD0 HW0 HD HB
  generalize W0.heap.size = D at *
  obtain ⟨⟨c0, c1, c2⟩, ⟨c3, c4, c5⟩, c6, c7, c8⟩ := dev_cells HT1.out.1
  obtain ⟨⟨x0, x1, x2⟩, y0, y1, y2⟩ := three_cells HT1.out.2.1
  obtain ⟨⟨r0, r1, r2⟩, u0, u1, u2⟩ := three_cells HT1.out.2.2.1
  have hlt : w.heap.size + 1 < w1.heap.size := (Array.getElem?_eq_some_iff.1 HT1.out.2.1).1
  have hlt0 : w.heap.size < w1.heap.size := by omega
  have hlD : D < w1.heap.size := (Array.getElem?_eq_some_iff.1 HT1.out.1).1
  go_wp2_with fail
  refine wp_loop_rounds 4 ?_
  rw [rounds_succ]
  go_wp2_with fail
  have HT2 := Lib.hid (HT1.out.alloc (.cells #[fnV 81, mtV 82 B, mtV 83 B] 89))
  have HE2 : Hid ((w1.alloc (.cells #[fnV 81, mtV 82 B, mtV 83 B] 89)).heap[w1.heap.size]? = some (.cells #[fnV 81, mtV 82 B, mtV 83 B] 89 (0, 0))) := heap_alloc_new _ _
  clear c0 c1 c2 c3 c4 c5 c6 c7 c8 x0 x1 x2 y0 y1 y2 r0 r1 r2 u0 u1 u2 hlt hlt0 hlD
  generalize w1.alloc (.cells #[fnV 81, mtV 82 B, mtV 83 B] 89) = w2 at *
  obtain ⟨E2, hE2⟩ : ∃ E, w1.heap.size = E := ⟨_, rfl⟩
  rw [hE2] at HE2 ⊢
  clear hE2
  refine (H0.out w2).mono ?_
  rintro e w' ⟨rfl, hw⟩
  have hw := hw.symm
  subst hw
  obtain ⟨⟨c0, c1, c2⟩, ⟨c3, c4, c5⟩, c6, c7, c8⟩ := dev_cells HT2.out.1
  obtain ⟨⟨x0, x1, x2⟩, y0, y1, y2⟩ := three_cells HT2.out.2.1
  obtain ⟨⟨r0, r1, r2⟩, u0, u1, u2⟩ := three_cells HT2.out.2.2.1
  have hlt : w.heap.size + 1 < w2.heap.size := (Array.getElem?_eq_some_iff.1 HT2.out.2.1).1
  have hlt0 : w.heap.size < w2.heap.size := by omega
  have hlD : D < w2.heap.size := (Array.getElem?_eq_some_iff.1 HT2.out.1).1
  go_wp2_with fail
  rw [rounds_succ]
  go_wp2_with fail
  have HT3 := Lib.hid (HT2.out.alloc (.cells #[fnV 84, mtV 85 B, mtV 86 B] 89))
  have HE3 : Hid ((w2.alloc (.cells #[fnV 84, mtV 85 B, mtV 86 B] 89)).heap[w2.heap.size]? = some (.cells #[fnV 84, mtV 85 B, mtV 86 B] 89 (0, 0))) := heap_alloc_new _ _
  clear c0 c1 c2 c3 c4 c5 c6 c7 c8 x0 x1 x2 y0 y1 y2 r0 r1 r2 u0 u1 u2 hlt hlt0 hlD
  generalize w2.alloc (.cells #[fnV 84, mtV 85 B, mtV 86 B] 89) = w3 at *
  obtain ⟨E3, hE3⟩ : ∃ E, w2.heap.size = E := ⟨_, rfl⟩
  rw [hE3] at HE3 ⊢
  clear hE3
  refine (H1.out w3).mono ?_
  rintro e w' ⟨rfl, hw⟩
  have hw := hw.symm
  subst hw
  obtain ⟨⟨c0, c1, c2⟩, ⟨c3, c4, c5⟩, c6, c7, c8⟩ := dev_cells HT3.out.1
  obtain ⟨⟨x0, x1, x2⟩, y0, y1, y2⟩ := three_cells HT3.out.2.1
  obtain ⟨⟨r0, r1, r2⟩, u0, u1, u2⟩ := three_cells HT3.out.2.2.1
  have hlt : w.heap.size + 1 < w3.heap.size := (Array.getElem?_eq_some_iff.1 HT3.out.2.1).1
  have hlt0 : w.heap.size < w3.heap.size := by omega
  have hlD : D < w3.heap.size := (Array.getElem?_eq_some_iff.1 HT3.out.1).1
  obtain ⟨⟨e0, e1, e2⟩, -⟩ := three_cells HE3.out
  go_wp2
  rw [Exit.noGoto_ret]
  refine bodyPost_ret (v := .tuple #[conDev B, .bool true]) (by simp [results, Try.results41, go_sem, r0, r1, r2, hlt0]) rfl ⟨rfl, ?_⟩
  have hb := HT3.out.2.2.2.2
  have hb2 := hb.trans ((bar3 (w.heap.size + 1) w3 (fnV 84) (mtV 85 B) (mtV 86 B)).below (by omega) hb.size)
  exact hb2.trans ((bar3 w.heap.size _ _ _ _).below (Nat.le_refl _) hb2.size)

set_option maxHeartbeats 3200000 in
theorem device_tim {B R C A : Nat} {off : Bool} {code : Int} (a : Int) (w : World) (h : BusC w B R C A off code) (h0 : (a == 1048576) = false) (h1 : (a == 268435456 || a == 268435460) = false) (h2 : hasT a = true) :
    Calls Try.prog 41 #[.pointer (some ⟨B, 0, none⟩), .int .u32 a, .int .i64 4] w fun e w' => e = .returned (.tuple #[timDev A, .bool true]) ∧ Below w.heap.size w w' := by
  have H0 : Hid (∀ W, Calls Try.prog 81 #[.int .u32 a] W fun e w' => e = .returned (.bool false) ∧ w' = W) := fun W => by
    have := isport_any a W
    rwa [h0] at this
  have H1 : Hid (∀ W, Calls Try.prog 84 #[.int .u32 a] W fun e w' => e = .returned (.bool false) ∧ w' = W) := fun W => by
    have := iscon_any a W
    rwa [h1] at this
  have H2 : Hid (∀ W, Calls Try.prog 87 #[.int .u32 a] W fun e w' => e = .returned (.bool true) ∧ w' = W) := fun W => by
    have := thas_any a W
    rwa [h2] at this
  clear h0 h1 h2
  have HD : Hid (∀ W, BusC W B R C A off code → Calls Try.prog 68 #[.pointer (some ⟨B, 0, none⟩)] W fun e w' => e = .returned (.slice (some ⟨W.heap.size, 0, none⟩) 3 3) ∧ w'.heap[W.heap.size]? = some (.cells (devC B A) 89 (0, 0)) ∧ Below W.heap.size W w') := fun W hW => devices_any W hW
  have HB := Lib.hid h
  clear h
  obtain ⟨hs1, hs2, hs3, hs4⟩ := dev_start w
  obtain ⟨W0, hW0⟩ : ∃ W0, W0 = ((w.alloc (.cells #[.nilFunc, .nilFunc, .nilFunc] 89)).alloc (.cells #[.nilFunc, .nilFunc, .nilFunc] 89)) := ⟨_, rfl⟩
  rw [← hW0] at hs1 hs2 hs3 hs4
  have HS := Lib.hid hs1
  have HS2 := Lib.hid hs2
  have HB0 := Lib.hid hs3
  have HD0 := Lib.hid hs4
  have HW0 := Lib.hid hW0
  clear hW0 hs1 hs2 hs3 hs4
  go_enter Try.func41, Try.ntmps41
  go_wp2_with fail
  go_step3
  go_wp2_with fail
  rw [← HW0.out]
  go_step3
  go_wp2_with fail
  refine (HD.out W0 (HB.out.on HB0.out)).mono ?_
  rintro e w1 ⟨rfl, hd1, hb1⟩
  have HT1 : Hid (DevT w B A W0.heap.size w1) := ⟨hd1, by rw [hb1.block _ HD0.out]; exact HS.out, by rw [hb1.block _ (by have := HD0.out; omega)]; exact HS2.out, HD0.out, HB0.out.trans (hb1.mono HB0.out.size)⟩
  clear hd1 hb1 HS HS2 HB0 HD0 HW0 HD HB
  generalize W0.heap.size = D at *
  obtain ⟨⟨c0, c1, c2⟩, ⟨c3, c4, c5⟩, c6, c7, c8⟩ := dev_cells HT1.out.1
  obtain ⟨⟨x0, x1, x2⟩, y0, y1, y2⟩ := three_cells HT1.out.2.1
  obtain ⟨⟨r0, r1, r2⟩, u0, u1, u2⟩ := three_cells HT1.out.2.2.1
  have hlt : w.heap.size + 1 < w1.heap.size := (Array.getElem?_eq_some_iff.1 HT1.out.2.1).1
  have hlt0 : w.heap.size < w1.heap.size := by omega
  have hlD : D < w1.heap.size := (Array.getElem?_eq_some_iff.1 HT1.out.1).1
  go_wp2_with fail
  refine wp_loop_rounds 4 ?_
  rw [rounds_succ]
  go_wp2_with fail
  have HT2 := Lib.hid (HT1.out.alloc (.cells #[fnV 81, mtV 82 B, mtV 83 B] 89))
  have HE2 : Hid ((w1.alloc (.cells #[fnV 81, mtV 82 B, mtV 83 B] 89)).heap[w1.heap.size]? = some (.cells #[fnV 81, mtV 82 B, mtV 83 B] 89 (0, 0))) := heap_alloc_new _ _
  clear c0 c1 c2 c3 c4 c5 c6 c7 c8 x0 x1 x2 y0 y1 y2 r0 r1 r2 u0 u1 u2 hlt hlt0 hlD
  generalize w1.alloc (.cells #[fnV 81, mtV 82 B, mtV 83 B] 89) = w2 at *
  obtain ⟨E2, hE2⟩ : ∃ E, w1.heap.size = E := ⟨_, rfl⟩
  rw [hE2] at HE2 ⊢
  clear hE2
  refine (H0.out w2).mono ?_
  rintro e w' ⟨rfl, hw⟩
  have hw := hw.symm
  subst hw
  obtain ⟨⟨c0, c1, c2⟩, ⟨c3, c4, c5⟩, c6, c7, c8⟩ := dev_cells HT2.out.1
  obtain ⟨⟨x0, x1, x2⟩, y0, y1, y2⟩ := three_cells HT2.out.2.1
  obtain ⟨⟨r0, r1, r2⟩, u0, u1, u2⟩ := three_cells HT2.out.2.2.1
  have hlt : w.heap.size + 1 < w2.heap.size := (Array.getElem?_eq_some_iff.1 HT2.out.2.1).1
  have hlt0 : w.heap.size < w2.heap.size := by omega
  have hlD : D < w2.heap.size := (Array.getElem?_eq_some_iff.1 HT2.out.1).1
  go_wp2_with fail
  rw [rounds_succ]
  go_wp2_with fail
  have HT3 := Lib.hid (HT2.out.alloc (.cells #[fnV 84, mtV 85 B, mtV 86 B] 89))
  have HE3 : Hid ((w2.alloc (.cells #[fnV 84, mtV 85 B, mtV 86 B] 89)).heap[w2.heap.size]? = some (.cells #[fnV 84, mtV 85 B, mtV 86 B] 89 (0, 0))) := heap_alloc_new _ _
  clear c0 c1 c2 c3 c4 c5 c6 c7 c8 x0 x1 x2 y0 y1 y2 r0 r1 r2 u0 u1 u2 hlt hlt0 hlD
  generalize w2.alloc (.cells #[fnV 84, mtV 85 B, mtV 86 B] 89) = w3 at *
  obtain ⟨E3, hE3⟩ : ∃ E, w2.heap.size = E := ⟨_, rfl⟩
  rw [hE3] at HE3 ⊢
  clear hE3
  refine (H1.out w3).mono ?_
  rintro e w' ⟨rfl, hw⟩
  have hw := hw.symm
  subst hw
  obtain ⟨⟨c0, c1, c2⟩, ⟨c3, c4, c5⟩, c6, c7, c8⟩ := dev_cells HT3.out.1
  obtain ⟨⟨x0, x1, x2⟩, y0, y1, y2⟩ := three_cells HT3.out.2.1
  obtain ⟨⟨r0, r1, r2⟩, u0, u1, u2⟩ := three_cells HT3.out.2.2.1
  have hlt : w.heap.size + 1 < w3.heap.size := (Array.getElem?_eq_some_iff.1 HT3.out.2.1).1
  have hlt0 : w.heap.size < w3.heap.size := by omega
  have hlD : D < w3.heap.size := (Array.getElem?_eq_some_iff.1 HT3.out.1).1
  go_wp2_with fail
  rw [rounds_succ]
  go_wp2_with fail
  have HT4 := Lib.hid (HT3.out.alloc (.cells #[fnV 87, mtV 88 A, mtV 89 A] 89))
  have HE4 : Hid ((w3.alloc (.cells #[fnV 87, mtV 88 A, mtV 89 A] 89)).heap[w3.heap.size]? = some (.cells #[fnV 87, mtV 88 A, mtV 89 A] 89 (0, 0))) := heap_alloc_new _ _
  clear c0 c1 c2 c3 c4 c5 c6 c7 c8 x0 x1 x2 y0 y1 y2 r0 r1 r2 u0 u1 u2 hlt hlt0 hlD
  generalize w3.alloc (.cells #[fnV 87, mtV 88 A, mtV 89 A] 89) = w4 at *
  obtain ⟨E4, hE4⟩ : ∃ E, w3.heap.size = E := ⟨_, rfl⟩
  rw [hE4] at HE4 ⊢
  clear hE4
  refine (H2.out w4).mono ?_
  rintro e w' ⟨rfl, hw⟩
  have hw := hw.symm
  subst hw
  obtain ⟨⟨c0, c1, c2⟩, ⟨c3, c4, c5⟩, c6, c7, c8⟩ := dev_cells HT4.out.1
  obtain ⟨⟨x0, x1, x2⟩, y0, y1, y2⟩ := three_cells HT4.out.2.1
  obtain ⟨⟨r0, r1, r2⟩, u0, u1, u2⟩ := three_cells HT4.out.2.2.1
  have hlt : w.heap.size + 1 < w4.heap.size := (Array.getElem?_eq_some_iff.1 HT4.out.2.1).1
  have hlt0 : w.heap.size < w4.heap.size := by omega
  have hlD : D < w4.heap.size := (Array.getElem?_eq_some_iff.1 HT4.out.1).1
  obtain ⟨⟨e0, e1, e2⟩, -⟩ := three_cells HE4.out
  go_wp2
  rw [Exit.noGoto_ret]
  refine bodyPost_ret (v := .tuple #[timDev A, .bool true]) (by simp [results, Try.results41, go_sem, r0, r1, r2, hlt0]) rfl ⟨rfl, ?_⟩
  have hb := HT4.out.2.2.2.2
  have hb2 := hb.trans ((bar3 (w.heap.size + 1) w4 (fnV 87) (mtV 88 A) (mtV 89 A)).below (by omega) hb.size)
  exact hb2.trans ((bar3 w.heap.size _ _ _ _).below (Nat.le_refl _) hb2.size)

set_option maxHeartbeats 3200000 in
theorem device_none {B R C A : Nat} {off : Bool} {code : Int} (a : Int) (w : World) (h : BusC w B R C A off code) (h0 : (a == 1048576) = false) (h1 : (a == 268435456 || a == 268435460) = false) (h2 : hasT a = false) :
    Calls Try.prog 41 #[.pointer (some ⟨B, 0, none⟩), .int .u32 a, .int .i64 4] w fun e w' => e = .returned (.tuple #[noDev, .bool false]) ∧ Below w.heap.size w w' := by
  have H0 : Hid (∀ W, Calls Try.prog 81 #[.int .u32 a] W fun e w' => e = .returned (.bool false) ∧ w' = W) := fun W => by
    have := isport_any a W
    rwa [h0] at this
  have H1 : Hid (∀ W, Calls Try.prog 84 #[.int .u32 a] W fun e w' => e = .returned (.bool false) ∧ w' = W) := fun W => by
    have := iscon_any a W
    rwa [h1] at this
  have H2 : Hid (∀ W, Calls Try.prog 87 #[.int .u32 a] W fun e w' => e = .returned (.bool false) ∧ w' = W) := fun W => by
    have := thas_any a W
    rwa [h2] at this
  clear h0 h1 h2
  have HD : Hid (∀ W, BusC W B R C A off code → Calls Try.prog 68 #[.pointer (some ⟨B, 0, none⟩)] W fun e w' => e = .returned (.slice (some ⟨W.heap.size, 0, none⟩) 3 3) ∧ w'.heap[W.heap.size]? = some (.cells (devC B A) 89 (0, 0)) ∧ Below W.heap.size W w') := fun W hW => devices_any W hW
  have HB := Lib.hid h
  clear h
  obtain ⟨hs1, hs2, hs3, hs4⟩ := dev_start w
  obtain ⟨W0, hW0⟩ : ∃ W0, W0 = ((w.alloc (.cells #[.nilFunc, .nilFunc, .nilFunc] 89)).alloc (.cells #[.nilFunc, .nilFunc, .nilFunc] 89)) := ⟨_, rfl⟩
  rw [← hW0] at hs1 hs2 hs3 hs4
  have HS := Lib.hid hs1
  have HS2 := Lib.hid hs2
  have HB0 := Lib.hid hs3
  have HD0 := Lib.hid hs4
  have HW0 := Lib.hid hW0
  clear hW0 hs1 hs2 hs3 hs4
  go_enter Try.func41, Try.ntmps41
  go_wp2_with fail
  go_step3
  go_wp2_with fail
  rw [← HW0.out]
  go_step3
  go_wp2_with fail
  refine (HD.out W0 (HB.out.on HB0.out)).mono ?_
  rintro e w1 ⟨rfl, hd1, hb1⟩
  have HT1 : Hid (DevT w B A W0.heap.size w1) := ⟨hd1, by rw [hb1.block _ HD0.out]; exact HS.out, by rw [hb1.block _ (by have := HD0.out; omega)]; exact HS2.out, HD0.out, HB0.out.trans (hb1.mono HB0.out.size)⟩
  clear hd1 hb1 HS HS2 HB0 HD0 HW0 HD HB
  generalize W0.heap.size = D at *
  obtain ⟨⟨c0, c1, c2⟩, ⟨c3, c4, c5⟩, c6, c7, c8⟩ := dev_cells HT1.out.1
  obtain ⟨⟨x0, x1, x2⟩, y0, y1, y2⟩ := three_cells HT1.out.2.1
  obtain ⟨⟨r0, r1, r2⟩, u0, u1, u2⟩ := three_cells HT1.out.2.2.1
  have hlt : w.heap.size + 1 < w1.heap.size := (Array.getElem?_eq_some_iff.1 HT1.out.2.1).1
  have hlt0 : w.heap.size < w1.heap.size := by omega
  have hlD : D < w1.heap.size := (Array.getElem?_eq_some_iff.1 HT1.out.1).1
  go_wp2_with fail
  refine wp_loop_rounds 4 ?_
  rw [rounds_succ]
  go_wp2_with fail
  have HT2 := Lib.hid (HT1.out.alloc (.cells #[fnV 81, mtV 82 B, mtV 83 B] 89))
  have HE2 : Hid ((w1.alloc (.cells #[fnV 81, mtV 82 B, mtV 83 B] 89)).heap[w1.heap.size]? = some (.cells #[fnV 81, mtV 82 B, mtV 83 B] 89 (0, 0))) := heap_alloc_new _ _
  clear c0 c1 c2 c3 c4 c5 c6 c7 c8 x0 x1 x2 y0 y1 y2 r0 r1 r2 u0 u1 u2 hlt hlt0 hlD
  generalize w1.alloc (.cells #[fnV 81, mtV 82 B, mtV 83 B] 89) = w2 at *
  obtain ⟨E2, hE2⟩ : ∃ E, w1.heap.size = E := ⟨_, rfl⟩
  rw [hE2] at HE2 ⊢
  clear hE2
  refine (H0.out w2).mono ?_
  rintro e w' ⟨rfl, hw⟩
  have hw := hw.symm
  subst hw
  obtain ⟨⟨c0, c1, c2⟩, ⟨c3, c4, c5⟩, c6, c7, c8⟩ := dev_cells HT2.out.1
  obtain ⟨⟨x0, x1, x2⟩, y0, y1, y2⟩ := three_cells HT2.out.2.1
  obtain ⟨⟨r0, r1, r2⟩, u0, u1, u2⟩ := three_cells HT2.out.2.2.1
  have hlt : w.heap.size + 1 < w2.heap.size := (Array.getElem?_eq_some_iff.1 HT2.out.2.1).1
  have hlt0 : w.heap.size < w2.heap.size := by omega
  have hlD : D < w2.heap.size := (Array.getElem?_eq_some_iff.1 HT2.out.1).1
  go_wp2_with fail
  rw [rounds_succ]
  go_wp2_with fail
  have HT3 := Lib.hid (HT2.out.alloc (.cells #[fnV 84, mtV 85 B, mtV 86 B] 89))
  have HE3 : Hid ((w2.alloc (.cells #[fnV 84, mtV 85 B, mtV 86 B] 89)).heap[w2.heap.size]? = some (.cells #[fnV 84, mtV 85 B, mtV 86 B] 89 (0, 0))) := heap_alloc_new _ _
  clear c0 c1 c2 c3 c4 c5 c6 c7 c8 x0 x1 x2 y0 y1 y2 r0 r1 r2 u0 u1 u2 hlt hlt0 hlD
  generalize w2.alloc (.cells #[fnV 84, mtV 85 B, mtV 86 B] 89) = w3 at *
  obtain ⟨E3, hE3⟩ : ∃ E, w2.heap.size = E := ⟨_, rfl⟩
  rw [hE3] at HE3 ⊢
  clear hE3
  refine (H1.out w3).mono ?_
  rintro e w' ⟨rfl, hw⟩
  have hw := hw.symm
  subst hw
  obtain ⟨⟨c0, c1, c2⟩, ⟨c3, c4, c5⟩, c6, c7, c8⟩ := dev_cells HT3.out.1
  obtain ⟨⟨x0, x1, x2⟩, y0, y1, y2⟩ := three_cells HT3.out.2.1
  obtain ⟨⟨r0, r1, r2⟩, u0, u1, u2⟩ := three_cells HT3.out.2.2.1
  have hlt : w.heap.size + 1 < w3.heap.size := (Array.getElem?_eq_some_iff.1 HT3.out.2.1).1
  have hlt0 : w.heap.size < w3.heap.size := by omega
  have hlD : D < w3.heap.size := (Array.getElem?_eq_some_iff.1 HT3.out.1).1
  go_wp2_with fail
  rw [rounds_succ]
  go_wp2_with fail
  have HT4 := Lib.hid (HT3.out.alloc (.cells #[fnV 87, mtV 88 A, mtV 89 A] 89))
  have HE4 : Hid ((w3.alloc (.cells #[fnV 87, mtV 88 A, mtV 89 A] 89)).heap[w3.heap.size]? = some (.cells #[fnV 87, mtV 88 A, mtV 89 A] 89 (0, 0))) := heap_alloc_new _ _
  clear c0 c1 c2 c3 c4 c5 c6 c7 c8 x0 x1 x2 y0 y1 y2 r0 r1 r2 u0 u1 u2 hlt hlt0 hlD
  generalize w3.alloc (.cells #[fnV 87, mtV 88 A, mtV 89 A] 89) = w4 at *
  obtain ⟨E4, hE4⟩ : ∃ E, w3.heap.size = E := ⟨_, rfl⟩
  rw [hE4] at HE4 ⊢
  clear hE4
  refine (H2.out w4).mono ?_
  rintro e w' ⟨rfl, hw⟩
  have hw := hw.symm
  subst hw
  obtain ⟨⟨c0, c1, c2⟩, ⟨c3, c4, c5⟩, c6, c7, c8⟩ := dev_cells HT4.out.1
  obtain ⟨⟨x0, x1, x2⟩, y0, y1, y2⟩ := three_cells HT4.out.2.1
  obtain ⟨⟨r0, r1, r2⟩, u0, u1, u2⟩ := three_cells HT4.out.2.2.1
  have hlt : w.heap.size + 1 < w4.heap.size := (Array.getElem?_eq_some_iff.1 HT4.out.2.1).1
  have hlt0 : w.heap.size < w4.heap.size := by omega
  have hlD : D < w4.heap.size := (Array.getElem?_eq_some_iff.1 HT4.out.1).1
  go_wp2_with fail
  rw [rounds_succ]
  go_wp2
  rw [Exit.noGoto_ret]
  refine bodyPost_ret (v := .tuple #[noDev, .bool false]) (by simp [results, Try.results41, go_sem, r0, r1, r2, hlt0]) rfl ⟨rfl, ?_⟩
  exact (HT4.out.2.2.2.2).trans ((bar3 w.heap.size w4 _ _ _).below (Nat.le_refl _) HT4.out.2.2.2.2.size)
end Go.Proofs.Ytkbccccjjlkgbaa

/- Layer 14: a bus with its parts; its state as numbers. -/
namespace Go.Proofs.Ytkbccccjjlkgbaa
open Go.RowKit
set_option linter.unusedVariables false
set_option linter.unusedSimpArgs false
set_option maxRecDepth 100000

/-- Bytes, watches, generations; the console; the timer's offset, mark and call; is the power off, and the code. -/
structure BS where
  b : Nat → Int
  wa : Nat → Bool
  g : Nat → Int
  s : CS
  o : Int
  m : Int
  sf : Bool
  off : Bool
  code : Int
/-- What lies at an address of memory, as a place. -/
def plZ (addr : Int) : Nat := (addr - 2147483648).toNat
/-- What a load answers, and what it leaves. -/
def BS.ldV (x : BS) (K : Nat) (addr n k : Int) : Int :=
  if askZ K addr n = 0 then numTo (fun i => x.b (plZ addr + i)) n.toNat else if addr = 1048576 then 0 else if hasT addr = true then readT x.o x.m x.sf addr k else x.s.val (addr - 268435456)
def BS.ldS (x : BS) (K : Nat) (addr n : Int) : BS :=
  if askZ K addr n = 0 then x else if addr = 1048576 then x else if hasT addr = true then x else { x with s := x.s.rd (addr - 268435456) }
/-- What a store leaves. -/
def BS.stM (x : BS) (addr n v : Int) : BS := { x with b := bput x.b (plZ addr) n.toNat (byteAt v), wa := wHit x.wa (plZ addr / 64), g := gHit x.wa x.g (plZ addr / 64) }
def BS.st (x : BS) (K : Nat) (addr n v k : Int) : BS :=
  if askZ K addr n = 0 then x.stM addr n v else if addr = 1048576 then { x with off := true, code := v } else if hasT addr = true then { x with o := wO x.o addr v k, m := wM x.m addr v, sf := wS x.sf addr v } else { x with s := x.s.wr (addr - 268435456) v }
def BS.hit (x : BS) (K : Nat) (addr n : Int) : Bool := decide (askZ K addr n = 0) && x.wa (plZ addr / 64)
def BS.up (x : BS) (len : Nat) (T Y : Nat → Int) (t : Int) : BS := { x with s := x.s.up len T Y t }

section
variable {x : BS} {K : Nat} {addr n v k : Int}
theorem BS.ldV_mem (h : askZ K addr n = 0) : x.ldV K addr n k = numTo (fun i => x.b (plZ addr + i)) n.toNat := by simp [BS.ldV, h]
theorem BS.ldS_mem (h : askZ K addr n = 0) : x.ldS K addr n = x := by simp [BS.ldS, h]
theorem BS.st_mem (h : askZ K addr n = 0) : x.st K addr n v k = x.stM addr n v := by simp [BS.st, h]
theorem BS.hit_mem (h : askZ K addr n = 0) : x.hit K addr n = x.wa (plZ addr / 64) := by simp [BS.hit, h]
theorem BS.hit_dev (h : askZ K addr n ≠ 0) : x.hit K addr n = false := by simp [BS.hit, h]
theorem BS.ld_port : x.ldV K 1048576 4 k = 0 ∧ x.ldS K 1048576 4 = x ∧ x.st K 1048576 4 v k = { x with off := true, code := v } := by
  have h : askZ K 1048576 4 = 6 := dev_ask (by decide)
  simp [BS.ldV, BS.ldS, BS.st, h]
theorem BS.ld_tim (ha : hasT addr = true) : x.ldV K addr 4 k = readT x.o x.m x.sf addr k ∧ x.ldS K addr 4 = x ∧ x.st K addr 4 v k = { x with o := wO x.o addr v k, m := wM x.m addr v, sf := wS x.sf addr v } := by
  have h : askZ K addr 4 = 6 := dev_ask (by simp [devB, ha])
  have hp : addr ≠ 1048576 := by rintro rfl; exact absurd ha (by decide)
  simp [BS.ldV, BS.ldS, BS.st, h, hp, ha]
theorem BS.ld_con (ha : addr = 268435456 ∨ addr = 268435460) : x.ldV K addr 4 k = x.s.val (addr - 268435456) ∧ x.ldS K addr 4 = { x with s := x.s.rd (addr - 268435456) } ∧ x.st K addr 4 v k = { x with s := x.s.wr (addr - 268435456) v } := by
  have h : askZ K addr 4 = 6 := by rcases ha with rfl | rfl <;> exact dev_ask (by decide)
  have hp : addr ≠ 1048576 := by omega
  have ht : hasT addr = false := by rcases ha with rfl | rfl <;> decide
  simp [BS.ldV, BS.ldS, BS.st, h, hp, ht]
end

/-- The blocks of a bus and its parts. -/
def Fp (B R P A : Nat) (S : Nat → Prop) (k : Nat) : Prop := k = B ∨ k = R ∨ k = P ∨ k = A ∨ S k
def IsBus (w : World) (B R P C A K : Nat) (S : Nat → Prop) (Kc : Nat) (T Y : Nat → Int) (x : BS) : Prop :=
  BusC w B R C A x.off x.code ∧ IsRam w R P K x.b x.wa x.g ∧ IsCon w C S Kc T Y x.s ∧ IsTim w A x.o x.m x.sf ∧ (B ≠ R ∧ B ≠ P ∧ B ≠ A ∧ R ≠ A ∧ P ≠ A) ∧ (¬ S B ∧ ¬ S R ∧ ¬ S P ∧ ¬ S A)

section
variable {w w' : World} {B R P C A K Kc : Nat} {S S' : Nat → Prop} {T Y : Nat → Int} {x : BS}
theorem IsBus.keep (h : IsBus w B R P C A K S Kc T Y x) (hs : w.heap.size ≤ w'.heap.size) (hb : ∀ k, k < w.heap.size → Fp B R P A S k → w'.heap[k]? = w.heap[k]?) : IsBus w' B R P C A K S Kc T Y x := by
  obtain ⟨h1, ⟨hne, hR, cs, hP, hc⟩, h3, h4, h5, h6⟩ := h
  refine ⟨h1.keep (hb B h1.lt (.inl rfl)), ⟨hne, by rw [hb R (Array.getElem?_eq_some_iff.1 hR).1 (.inr (.inl rfl))]; exact hR, cs, by rw [hb P (Array.getElem?_eq_some_iff.1 hP).1 (.inr (.inr (.inl rfl)))]; exact hP, hc⟩, h3.keep hs (fun k hk hS => hb k hk (.inr (.inr (.inr (.inr hS))))), ?_, h5, h6⟩
  unfold IsTim
  rw [hb A h4.lt (.inr (.inr (.inr (.inl rfl))))]; exact h4
theorem IsBus.on (h : IsBus w B R P C A K S Kc T Y x) (hb : Below w.heap.size w w') : IsBus w' B R P C A K S Kc T Y x := h.keep hb.size (fun k hk _ => hb.block k hk)
theorem IsBus.q (h : IsBus w B R P C A K S Kc T Y x) (hb : Q w w') : IsBus w' B R P C A K S Kc T Y x := h.on (hb.below _)
theorem IsBus.bar {Z : Nat} (h : IsBus w B R P C A K S Kc T Y x) (hb : Bar Z w w') (hZ : ¬ Fp B R P A S Z) : IsBus w' B R P C A K S Kc T Y x := h.keep hb.size (fun k hk hf => hb.2.2.2.2 k hk (fun e => hZ (e ▸ hf)))
theorem IsBus.fr {Z : Nat → Prop} (h : IsBus w B R P C A K S Kc T Y x) (hb : Fr Z w w') (hZ : ∀ k, Fp B R P A S k → ¬ Z k) : IsBus w' B R P C A K S Kc T Y x := h.keep hb.size (fun k hk hf => hb.block hk (hZ k hf))
theorem IsBus.lt (h : IsBus w B R P C A K S Kc T Y x) : ∀ k, Fp B R P A S k → k < w.heap.size := by
  obtain ⟨h1, h2, h3, h4, h5, h6⟩ := h
  rintro k (rfl | rfl | rfl | rfl | hk)
  · exact h1.lt
  · exact h2.lt.1
  · exact h2.lt.2
  · exact h4.lt
  · exact h3.lt k hk
/-- Behind a change of the console alone. -/
theorem IsBus.con {s' : CS} (h : IsBus w B R P C A K S Kc T Y x) (hc : IsCon w' C S' Kc T Y s') (hf : Fr S w w') (he : Ext w S S') : IsBus w' B R P C A K S' Kc T Y { x with s := s' } := by
  have hl := h.lt
  obtain ⟨h1, h2, h3, h4, h5, n1, n2, n3, n4⟩ := h
  have hn : ∀ k, k < w.heap.size → ¬ S k → ¬ S' k := fun k hk hn e => by rcases he k e with q | q; exact hn q; omega
  refine ⟨h1.fr hf n1, ?_, hc, ?_, h5, hn B (hl _ (.inl rfl)) n1, hn R (hl _ (.inr (.inl rfl))) n2, hn P (hl _ (.inr (.inr (.inl rfl)))) n3, hn A (hl _ (.inr (.inr (.inr (.inl rfl))))) n4⟩
  · obtain ⟨l1, l2⟩ := h2.lt
    obtain ⟨hne, hR, cs, hP, hc⟩ := h2
    exact ⟨hne, by rw [hf.block l1 n2]; exact hR, cs, by rw [hf.block l2 n3]; exact hP, hc⟩
  · unfold IsTim
    rw [hf.block h4.lt n4]; exact h4
theorem Fr.fp (h : Fr S w w') : Fr (Fp B R P A S) w w' := ⟨h.1, h.2.1, h.2.2.1, h.size, fun k hk hn => h.block hk (fun e => hn (.inr (.inr (.inr (.inr e)))))⟩
theorem ext_fp (h : Ext w S S') : Ext w (Fp B R P A S) (Fp B R P A S') := by
  rintro k (h1 | h1 | h1 | h1 | h1)
  · exact .inl (.inl h1)
  · exact .inl (.inr (.inl h1))
  · exact .inl (.inr (.inr (.inl h1)))
  · exact .inl (.inr (.inr (.inr (.inl h1))))
  · rcases h k h1 with q | q
    · exact .inl (.inr (.inr (.inr (.inr q))))
    · exact .inr q
/-- Of the timer alone. -/
theorem IsBus.tim {o' m' : Int} {s' : Bool} (h : IsBus w B R P C A K S Kc T Y x) (ht : IsTim w' A o' m' s') (hb : Bar A w w') : IsBus w' B R P C A K S Kc T Y { x with o := o', m := m', sf := s' } := by
  obtain ⟨h1, h2, h3, h4, ⟨e1, e2, e3, e4, e5⟩, n1, n2, n3, n4⟩ := h
  refine ⟨h1.bar hb e3, ?_, h3.bar hb n4, ht, ⟨e1, e2, e3, e4, e5⟩, n1, n2, n3, n4⟩
  obtain ⟨l1, l2⟩ := h2.lt
  obtain ⟨hne, hR, cs, hP, hc⟩ := h2
  exact ⟨hne, by rw [hb.2.2.2.2 R l1 e4]; exact hR, cs, by rw [hb.2.2.2.2 P l2 e5]; exact hP, hc⟩
/-- Of the memory alone. -/
theorem IsBus.ram {b' : Nat → Int} {wa' : Nat → Bool} {g' : Nat → Int} (h : IsBus w B R P C A K S Kc T Y x) (hr : IsRam w' R P K b' wa' g') (hb : Bar P w w') : IsBus w' B R P C A K S Kc T Y { x with b := b', wa := wa', g := g' } := by
  obtain ⟨h1, h2, h3, h4, ⟨e1, e2, e3, e4, e5⟩, n1, n2, n3, n4⟩ := h
  exact ⟨h1.bar hb e2, hr, h3.bar hb n3, h4.bar hb (fun e => e5 e.symm), ⟨e1, e2, e3, e4, e5⟩, n1, n2, n3, n4⟩
/-- Of the power alone. -/
theorem IsBus.port {off' : Bool} {code' : Int} (h : IsBus w B R P C A K S Kc T Y x) (hc : BusC w' B R C A off' code') (hb : Bar B w w') : IsBus w' B R P C A K S Kc T Y { x with off := off', code := code' } := by
  obtain ⟨h1, h2, h3, h4, ⟨e1, e2, e3, e4, e5⟩, n1, n2, n3, n4⟩ := h
  refine ⟨hc, ?_, h3.bar hb n1, h4.bar hb (fun e => e3 e.symm), ⟨e1, e2, e3, e4, e5⟩, n1, n2, n3, n4⟩
  obtain ⟨l1, l2⟩ := h2.lt
  obtain ⟨hne, hR, cs, hP, hc⟩ := h2
  exact ⟨hne, by rw [hb.2.2.2.2 R l1 (fun e => e1 e.symm)]; exact hR, cs, by rw [hb.2.2.2.2 P l2 (fun e => e2 e.symm)]; exact hP, hc⟩
theorem fr_fpB (hb : Bar B w w') : Fr (Fp B R P A S) w w' := Fr.bar hb (.inl rfl)
theorem fr_fpP (hb : Bar P w w') : Fr (Fp B R P A S) w w' := Fr.bar hb (.inr (.inr (.inl rfl)))
theorem fr_fpA (hb : Bar A w w') : Fr (Fp B R P A S) w w' := Fr.bar hb (.inr (.inr (.inr (.inl rfl))))
end

/-- Bounds of a state, behind at most c calls. -/
def BsOk (K : Nat) (x : BS) (c : Nat) : Prop := BdB K x.b ∧ BdG K x.g c ∧ (0 ≤ x.m ∧ x.m < 18446744073709551616) ∧ x.s.m ≤ c
theorem pl_of {K : Nat} {addr n : Int} (h : askZ K addr n = 0) : sizeB n = true ∧ addr % n = 0 ∧ hasB K addr n = true ∧ addr = 2147483648 + (plZ addr : Int) ∧ (n.toNat : Int) = n ∧ plZ addr + n.toNat ≤ 64 * K ∧ plZ addr < 64 * K ∧ 1 ≤ n.toNat ∧ n.toNat ≤ 4 := by
  rcases askZ_cases K addr n with ⟨h1, h2⟩ | ⟨h1, h2, h3⟩ | ⟨h1, h2, h3, h4⟩ | ⟨h1, h2, h3, h4⟩
  · omega
  · omega
  · omega
  · obtain ⟨k0, k1, k2⟩ := hasB_yes h3
    have hn := sizeB_yes h1
    unfold plZ
    exact ⟨h1, h2, h3, by omega, by omega, by omega, by omega, by omega, by omega⟩
end Go.Proofs.Ytkbccccjjlkgbaa

/- Layer 10: Fill and Bytes. -/
namespace Go.Proofs.Ytkbccccjjlkgbaa
open Go.RowKit
set_option linter.unusedVariables false
set_option maxRecDepth 100000

set_option maxHeartbeats 400000 in
theorem bytes_nil (w : World) :
    Calls Try.prog 38 #[.pointer none] w fun e w' => e = .returned (.slice none 0 0) ∧ w' = w := by
  go_enter Try.func38, Try.ntmps38
  go_wp2
  go_ret
  exact ⟨rfl, rfl⟩

set_option maxHeartbeats 1600000 in
theorem bytes_any (R P K : Nat) (b : Nat → Int) (wa : Nat → Bool) (g : Nat → Int) (w : World) (h1 : 1 ≤ K) (hK : K ≤ 1024) (h : IsRam w R P K b wa g) :
    Calls Try.prog 38 #[.pointer (some ⟨R, 0, none⟩)] w fun e w' => ∃ B, e = .returned (.slice (some ⟨B, 0, none⟩) (64 * K) (64 * K)) ∧ w.heap.size ≤ B ∧ RowB w' B (64 * K) b ∧ Below w.heap.size w w' := by
  have hc := h.ptr
  have HI : Hid (IsRam w R P K b wa g) := h
  clear h
  have hmk : ∀ w : World, (Instr.makeSlice 30 (.int .i64 (64 * (K : Int))) (.int .i64 (64 * (K : Int)))).run Try.prog w = .ok (.slice (some ⟨w.heap.size, 0, none⟩) (64 * K) (64 * K)) (w.alloc (.cells (madeCells (Value.int .u8 0).cells (64 * K)) 5)) := fun w => by
    obtain ⟨i, hi, hz0, hz1, hz2⟩ := info_parts Try.info5
    have := run_make (P := Try.prog) w 30 5 i (.int .u8 0) Try.underlying30 hi hz0 .i64 .i64 (64 * (K : Int)) (64 * (K : Int)) (by omega) (Int.le_refl _) (by rw [hz2]; omega) (by omega)
    rw [hz1, show (64 * (K : Int)).toNat = 64 * K from by omega, Nat.mul_one] at this
    exact this
  obtain ⟨c0, hc0⟩ : ∃ c, c = madeCells (Value.int .u8 0).cells (64 * K) := ⟨_, rfl⟩
  have hs0 : c0.size = 64 * K := by rw [hc0]; exact size_madeCells _ _
  rw [← hc0] at hmk
  clear hc0
  have HS0 := Lib.hid hs0
  clear hs0
  have hb0 : Below w.heap.size w (w.alloc (.cells c0 5)) := (Below.refl _ _).alloc (Nat.le_refl _) _
  have HI0 : Hid (IsRam (w.alloc (.cells c0 5)) R P K b wa g) := HI.out.on hb0
  have hc0 := HI0.out.ptr
  clear hb0
  go_enter Try.func38, Try.ntmps38
  go_wp2_with (go_at_call 63; refine (size_any _ _ _ _ hK hc).mono ?_; rintro e w' ⟨rfl, hw⟩; have hw := hw.symm; subst hw)
  have hB0 : (w.alloc (.cells c0 5)).heap[w.heap.size]? = some (.cells c0.toList.toArray 5 (0, 0)) := by simpa using heap_alloc_new w (.cells c0 5)
  have hb0 : Below w.heap.size w (w.alloc (.cells c0 5)) := (Below.refl _ _).alloc (Nat.le_refl _) _
  have HB0 := Lib.hid hB0
  have HBE0 := Lib.hid hb0
  clear hB0 hb0 hmk hc0
  generalize (w.alloc (.cells c0 5)) = w1 at *
  obtain ⟨B, hB⟩ : ∃ B, w.heap.size = B := ⟨_, rfl⟩
  have HBB := Lib.hid hB
  rw [hB] at HB0
  simp only [hB]
  clear hB
  go_loopw [15] (fun i wr => ∃ k : Nat, k ≤ K ∧ i = .int .i64 k ∧ (∃ cur : List Value, wr.heap[B]? = some (.cells cur.toArray 5 (0, 0)) ∧ cur.length = 64 * K ∧ ∀ i, i < 64 * k → cur[i]? = some (.int .u8 (b i))) ∧ Below w.heap.size w wr) (fun i _ => K - (intOf i).toNat)
  case atStart => exact ⟨0, Nat.zero_le _, rfl, ⟨c0.toList, HB0.out, by simpa using HS0.out, fun i hi => absurd hi (by omega)⟩, HBE0.out⟩
  case round =>
    obtain ⟨k, hk, rfl, ⟨cur, hcur, hlen, hcells⟩, hb⟩ := hrel
    have HCUR := Lib.hid hcur
    have HLEN := Lib.hid hlen
    have HCELLS := Lib.hid hcells
    have HBE := Lib.hid hb
    clear hcur hlen hcells hb
    by_cases hlt : k < K
    · have HI1 : Hid (IsRam wr R P K b wa g) := HI.out.on HBE.out
      have hcr := HI1.out.ptr
      have hi : (k : Int) < K := by omega
      have hsl : ∀ w : World, (Instr.sliceAt 30 (.slice (some ⟨B, 0, none⟩) (64 * K) (64 * K)) (some (.int .i64 ((k : Int) * 64))) none none).run Try.prog w = .ok (.slice (some ⟨B, k * 64, none⟩) (64 * K - k * 64) (64 * K - k * 64)) w := fun w => by
        rw [run_sliceAt_slice w _ _ _ _ _ Try.underlying30, run_slice_l w _ _ _ _ Try.underlying30 .i64 _ (by omega) (by omega)]
        rw [show (sizeOf (Try.prog.elem 30)).run Try.prog w = .ok 1 w from by kernel_rfl]
        simp only [Result.andThen, sliced]
        rw [show ((k : Int) * 64).toNat = k * 64 from by omega, if_neg (by omega)]
        simp [Addr.add_lit]
      have hs0 := slice0_run P (k * 66)
      have hcp : (Builtin.copy_ #[30, 30] 3 #[.slice (some ⟨B, k * 64, none⟩) (64 * K - k * 64) (64 * K - k * 64), .slice (some ⟨P, k * 66, none⟩) 64 64]).run Try.prog wr.drew = .ok (.int .i64 64) (wr.drew.setRow B (splice cur (k * 64) ((List.range 64).map fun i => Value.int .u8 (b (64 * k + i)))).toArray) := by
        have h := run_copy_row (P := Try.prog) wr.drew 30 30 3 5 B (k * 64) (64 * K - k * 64) (64 * K - k * 64) ⟨P, k * 66, none⟩ 64 64 cur.toArray _ ((List.range 64).map fun i => Value.int .u8 (b (64 * k + i))) Try.underlying30 (by kernel_rfl) HCUR.out (by simp only [List.length_map, List.length_range]; show 64 = min 64 _; omega)
          (fun j u hj => by
            have hj1 : j < 64 := by
              have := (List.getElem?_eq_some_iff.1 hj).1
              simpa using this
            rw [List.getElem?_map, List.getElem?_range hj1] at hj
            have e := Option.some.inj hj
            subst e
            have := HI1.out.byte (i := 64 * k + j) (by omega)
            rw [show (64 * k + j) / 64 * 66 + (64 * k + j) % 64 = k * 66 + j from by omega] at this
            rw [Addr.add_lit]
            exact this)
          (by
            have h2 := HLEN.out
            simp only [List.length_map, List.length_range, List.size_toArray]; omega)
          (fun u hu => by
            obtain ⟨i, _, rfl⟩ := List.mem_map.1 hu
            rfl)
        simp only [List.length_map, List.length_range] at h
        rw [h]
        unfold splice
        simp only [List.length_map, List.length_range, List.append_assoc, goInt]
        rfl
      have HNEW : Hid (∃ cur' : List Value, (wr.drew.setRow B (splice cur (k * 64) ((List.range 64).map fun i => Value.int .u8 (b (64 * k + i)))).toArray).heap[B]? = some (.cells cur'.toArray 5 (0, 0)) ∧ cur'.length = 64 * K ∧ ∀ i, i < 64 * (k + 1) → cur'[i]? = some (.int .u8 (b i))) := by
        have h2 := HLEN.out
        have hfit : k * 64 + ((List.range 64).map fun i => Value.int .u8 (b (64 * k + i))).length ≤ cur.length := by simp only [List.length_map, List.length_range]; omega
        refine ⟨_, setRow_heap _ _ _ _ _ _ HCUR.out, by rw [length_splice _ _ _ hfit]; exact h2, fun i hi => ?_⟩
        rw [splice_get _ _ _ hfit]
        simp only [List.length_map, List.length_range]
        by_cases c : k * 64 ≤ i
        · rw [if_pos (by omega), List.getElem?_map, List.getElem?_range (by omega)]
          simp only [Option.map_some]
          rw [show 64 * k + (i - k * 64) = i from by omega]
        · rw [if_neg (by omega)]; exact HCELLS.out i (by omega)
      have HBE2 : Hid (Below w.heap.size w (wr.drew.setRow B (splice cur (k * 64) ((List.range 64).map fun i => Value.int .u8 (b (64 * k + i)))).toArray)) := below_setRow HBE.out.drew (by have := HBB.out; omega) _
      generalize (wr.drew.setRow B (splice cur (k * 64) ((List.range 64).map fun i => Value.int .u8 (b (64 * k + i)))).toArray) = w5 at *
      go_wp2_with fail
      go_region
      clear hcp
      go_wp2
      go_roundw
      case rel => exact ⟨k + 1, by omega, by go_num, HNEW.out, HBE2.out⟩
      case measure => simp [intOf]; omega
    · obtain rfl : k = K := by omega
      go_wp2
      go_ret
      refine ⟨B, rfl, by have := HBB.out; omega, fun i hi => ?_, HBE.out⟩
      simp [World.cell?, HCUR.out, HCELLS.out i hi]
end Go.Proofs.Ytkbccccjjlkgbaa

/- Layer 10, the document's side: Right, Has, Asked, Load. -/
namespace Go.Proofs.Ytkbccccjjlkgbaa
open Go.RowKit
set_option linter.unusedVariables false
set_option maxRecDepth 100000

set_option maxHeartbeats 400000 in
theorem right10_any (n : Int) (w : World) :
    Calls Try.prog 7 #[.int .i64 n] w fun e w' => e = .returned (.bool (rightB n)) ∧ w' = w := by
  by_cases h1 : 64 ≤ n
  · by_cases h2 : n ≤ 65536
    · have h0 : 0 ≤ n := by omega
      by_cases h3 : n % 64 = 0
      · go_enter Try.func7, Try.ntmps7
        go_wp2
        go_ret
        exact ⟨ret_bool (by rw [rightB_t (by omega)]), rfl⟩
      · have h4 : (n % 64 == 0) = false := by simpa using h3
        have H3 := Lib.hid h3
        clear h3
        go_enter Try.func7, Try.ntmps7
        go_wp2
        go_ret
        exact ⟨ret_bool (by rw [rightB_f (by have := H3.out; omega)]), rfl⟩
    · go_enter Try.func7, Try.ntmps7
      go_wp2
      go_ret
      exact ⟨ret_bool (by rw [rightB_f (by omega)]), rfl⟩
  · go_enter Try.func7, Try.ntmps7
    go_wp2
    go_ret
    exact ⟨ret_bool (by rw [rightB_f (by omega)]), rfl⟩

set_option maxHeartbeats 400000 in
theorem rhas10_any (K : Nat) (v : Option Addr) (cap : Nat) (addr n : Int) (w : World) (hK : K ≤ 1024) (h0 : 0 ≤ addr) (h1 : addr < 4294967296) :
    Calls Try.prog 43 #[.slice v (64 * K) cap, .int .u32 addr, .int .i64 n] w fun e w' => e = .returned (.bool (hasB K addr n)) ∧ w' = w := by
  obtain ⟨L, hL⟩ : ∃ L : Nat, 64 * K = L := ⟨_, rfl⟩
  have e : ∀ n : Int, hasB K addr n = decide (1 ≤ n ∧ 2147483648 ≤ addr ∧ n ≤ (L : Int) - (addr - 2147483648)) := fun n => by
    unfold hasB; rw [decide_eq_decide]; omega
  have HE := Lib.hid (e n)
  have hL1 : L ≤ 65536 := by omega
  clear e
  rw [hL]
  clear hL hK
  generalize hasB K addr n = y at *
  by_cases c1 : 1 ≤ n
  · by_cases c2 : 0 ≤ addr - 2147483648
    · by_cases c3 : n ≤ L
      · by_cases c4 : addr - 2147483648 ≤ (L : Int) - n
        · go_enter Try.func43, Try.ntmps43
          go_wp2
          go_ret
          exact ⟨ret_bool (by rw [HE.out]; simp; omega), rfl⟩
        · go_enter Try.func43, Try.ntmps43
          go_wp2
          go_ret
          exact ⟨ret_bool (by rw [HE.out]; simp; omega), rfl⟩
      · go_enter Try.func43, Try.ntmps43
        go_wp2
        go_ret
        exact ⟨ret_bool (by rw [HE.out]; simp; omega), rfl⟩
    · go_enter Try.func43, Try.ntmps43
      go_wp2
      go_ret
      exact ⟨ret_bool (by rw [HE.out]; simp; omega), rfl⟩
  · go_enter Try.func43, Try.ntmps43
    go_wp2
    go_ret
    exact ⟨ret_bool (by rw [HE.out]; simp; omega), rfl⟩

set_option maxHeartbeats 800000 in
theorem rload10_any (K a n : Nat) (addr : Int) (B cap : Nat) (b : Nat → Int) (w : World) (hK : K ≤ 1024) (hB : RowB w B (64 * K) b) (hb : BdB K b) (ha : addr = 2147483648 + (a : Int)) (hn : n ≤ 4) (hn1 : 1 ≤ n) (hfit : a + n ≤ 64 * K) (hcap : 64 * K ≤ cap) :
    Calls Try.prog 52 #[.slice (some ⟨B, 0, none⟩) (64 * K) cap, .int .u32 addr, .int .i64 n] w fun e w' => e = .returned (.int .u32 (numTo (fun i => b (a + i)) n)) ∧ Q w w' := by
  have h0 : 0 ≤ addr := by omega
  have h1 : addr < 2147549184 := by omega
  have HN : Hid (∀ W, Q w W → ∀ c, Calls Try.prog 73 #[.slice (some ⟨B, a, none⟩) n c] W fun e w' => e = .returned (.int .u32 (numTo (fun i => b (a + i)) n)) ∧ Q W w') := fun W hq c =>
    rnumber_any (fun i => b (a + i)) B a n c W hn (fun i hi => hb _ (by omega)) (fun i hi => cell_q hq (hB (a + i) (by omega)))
  have e1 : addr - 2147483648 = (a : Int) := by omega
  have hsl : ∀ w : World, (Instr.sliceAt 30 (.slice (some ⟨B, 0, none⟩) (64 * K) cap) (some (.int .i64 (a : Int))) (some (.int .i64 ((a : Int) + (n : Int)))) none).run Try.prog w = .ok (.slice (some ⟨B, a, none⟩) n (cap - a)) w := fun w => by
    rw [run_sliceAt_slice w _ _ _ _ _ Try.underlying30, run_slice_lh w _ _ _ _ Try.underlying30 .i64 .i64 _ _ (by omega) (by omega) (by omega)]
    rw [show (sizeOf (Try.prog.elem 30)).run Try.prog w = .ok 1 w from by kernel_rfl]
    simp only [Result.andThen, sliced]
    rw [show ((a : Int)).toNat = a from by omega, show ((a : Int) + (n : Int)).toNat = a + n from by omega, if_neg (by omega)]
    simp [Addr.add_lit]
  have h2 : (a : Int) + (n : Int) ≤ 65536 := by omega
  clear hB hb ha hfit hcap
  go_enter Try.func52, Try.ntmps52
  go_wp2_with fail
  refine (HN.out _ (Q.refl _) _).mono ?_
  rintro e w1 ⟨rfl, hq⟩
  have HQ := Lib.hid hq
  clear hq
  go_wp2
  go_ret
  exact ⟨rfl, HQ.out⟩
end Go.Proofs.Ytkbccccjjlkgbaa

/- Layer 14, the document's side: Class, Asked. -/
namespace Go.Proofs.Ytkbccccjjlkgbaa
open Go.RowKit
set_option linter.unusedVariables false
set_option linter.unusedSimpArgs false
set_option maxRecDepth 100000

set_option maxHeartbeats 1600000 in
theorem rclass14_any (K : Nat) (v : Option Addr) (cap : Nat) (a n : Int) (w : World) (hK : K ≤ 1024) (a0 : 0 ≤ a) (a1 : a < 4294967296) :
    Calls Try.prog 15 #[.slice v (64 * K) cap, .int .u32 a, .int .i64 n] w fun e w' => e = .returned (.int .i64 (classZ K a n)) ∧ w' = w := by
  have HW : Hid (∀ W : World, Calls Try.prog 42 #[.int .i64 n] W fun e w' => e = .returned (.bool (sizeB n)) ∧ w' = W) := fun W => width_any n W
  have HH : Hid (∀ W : World, Calls Try.prog 43 #[.slice v (64 * K) cap, .int .u32 a, .int .i64 n] W fun e w' => e = .returned (.bool (hasB K a n)) ∧ w' = W) := fun W => rhas10_any K v cap a n W hK a0 a1
  have HT : Hid (∀ W : World, Calls Try.prog 44 #[.int .u32 a] W fun e w' => e = .returned (.bool (hasT a)) ∧ w' = W) := fun W => rhas13_any a W
  rcases askZ_cases K a n with ⟨h1, hz⟩ | ⟨h1, h2, hz⟩ | ⟨h1, h2, h3, hz⟩ | ⟨h1, h2, h3, hz⟩
  · have HC : Hid (classZ K a n = 0) := classZ_none (by omega) (by simp [isDev, hz])
    rw [h1] at HW
    clear h1 hz HH HT
    go_enter Try.func15, Try.ntmps15
    go_wp2_with (go_at_call 42; refine (HW.out _).mono ?_; rintro e w' ⟨rfl, hw⟩; have hw := hw.symm; subst hw)
    go_ret
    exact ⟨ret_int HC.out.symm, rfl⟩
  · have HC : Hid (classZ K a n = 0) := classZ_none (by omega) (by simp [isDev, hz])
    rw [h1] at HW
    have hn := sizeB_yes h1
    clear h1 hz HH HT
    rcases hn with rfl | rfl | rfl
    · omega
    all_goals
      have h2' : (a % _ != 0) = true := bne_iff_ne.2 h2
      clear h2
      go_enter Try.func15, Try.ntmps15
      go_wp2_with (go_at_call 42; refine (HW.out _).mono ?_; rintro e w' ⟨rfl, hw⟩; have hw := hw.symm; subst hw)
      go_ret
      exact ⟨ret_int HC.out.symm, rfl⟩
  · have hn := sizeB_yes h1
    rw [h1] at HW
    rw [h3] at HH
    by_cases h4 : n = 4
    · subst h4
      cases hd : devB a
      · have HC : Hid (classZ K a 4 = 0) := classZ_none (by omega) (by simp [isDev, hd])
        obtain ⟨⟨d1, d2, d3⟩, d4⟩ := devB_no hd
        rw [d4] at HT
        clear h1 h3 hz hd hn d4
        go_enter Try.func15, Try.ntmps15
        go_wp2_with (first | (go_at_call 42; refine (HW.out _).mono ?_; rintro e w' ⟨rfl, hw⟩; have hw := hw.symm; subst hw) | (go_at_call 43; refine (HH.out _).mono ?_; rintro e w' ⟨rfl, hw⟩; have hw := hw.symm; subst hw) | (go_at_call 44; refine (HT.out _).mono ?_; rintro e w' ⟨rfl, hw⟩; have hw := hw.symm; subst hw))
        go_ret
        exact ⟨ret_int HC.out.symm, rfl⟩
      · have HC : Hid (classZ K a 4 = 2) := classZ_dev (isDev_t hd)
        rcases devB_yes hd with rfl | (rfl | rfl) | ht
        · clear h1 h3 hz hd hn
          go_enter Try.func15, Try.ntmps15
          go_wp2_with (first | (go_at_call 42; refine (HW.out _).mono ?_; rintro e w' ⟨rfl, hw⟩; have hw := hw.symm; subst hw) | (go_at_call 43; refine (HH.out _).mono ?_; rintro e w' ⟨rfl, hw⟩; have hw := hw.symm; subst hw) | (go_at_call 44; refine (HT.out _).mono ?_; rintro e w' ⟨rfl, hw⟩; have hw := hw.symm; subst hw))
          go_ret
          exact ⟨ret_int HC.out.symm, rfl⟩
        · clear h1 h3 hz hd hn
          go_enter Try.func15, Try.ntmps15
          go_wp2_with (first | (go_at_call 42; refine (HW.out _).mono ?_; rintro e w' ⟨rfl, hw⟩; have hw := hw.symm; subst hw) | (go_at_call 43; refine (HH.out _).mono ?_; rintro e w' ⟨rfl, hw⟩; have hw := hw.symm; subst hw) | (go_at_call 44; refine (HT.out _).mono ?_; rintro e w' ⟨rfl, hw⟩; have hw := hw.symm; subst hw))
          go_ret
          exact ⟨ret_int HC.out.symm, rfl⟩
        · clear h1 h3 hz hd hn
          go_enter Try.func15, Try.ntmps15
          go_wp2_with (first | (go_at_call 42; refine (HW.out _).mono ?_; rintro e w' ⟨rfl, hw⟩; have hw := hw.symm; subst hw) | (go_at_call 43; refine (HH.out _).mono ?_; rintro e w' ⟨rfl, hw⟩; have hw := hw.symm; subst hw) | (go_at_call 44; refine (HT.out _).mono ?_; rintro e w' ⟨rfl, hw⟩; have hw := hw.symm; subst hw))
          go_ret
          exact ⟨ret_int HC.out.symm, rfl⟩
        · rw [ht] at HT
          rcases hasT_yes ht with rfl | rfl | rfl | rfl | rfl
          all_goals
            clear h1 h3 hz hd hn ht
            go_enter Try.func15, Try.ntmps15
            go_wp2_with (first | (go_at_call 42; refine (HW.out _).mono ?_; rintro e w' ⟨rfl, hw⟩; have hw := hw.symm; subst hw) | (go_at_call 43; refine (HH.out _).mono ?_; rintro e w' ⟨rfl, hw⟩; have hw := hw.symm; subst hw) | (go_at_call 44; refine (HT.out _).mono ?_; rintro e w' ⟨rfl, hw⟩; have hw := hw.symm; subst hw))
            go_ret
            exact ⟨ret_int HC.out.symm, rfl⟩
    · have HC : Hid (classZ K a n = 0) := classZ_none (by omega) (by simp [isDev, h4])
      clear h1 h3 hz HT
      rcases hn with rfl | rfl | rfl
      · have hm : a % 1 = 0 := Int.emod_one a
        clear h2 hm
        go_enter Try.func15, Try.ntmps15
        go_wp2_with (first | (go_at_call 42; refine (HW.out _).mono ?_; rintro e w' ⟨rfl, hw⟩; have hw := hw.symm; subst hw) | (go_at_call 43; refine (HH.out _).mono ?_; rintro e w' ⟨rfl, hw⟩; have hw := hw.symm; subst hw))
        go_ret
        exact ⟨ret_int HC.out.symm, rfl⟩
      · go_enter Try.func15, Try.ntmps15
        go_wp2_with (first | (go_at_call 42; refine (HW.out _).mono ?_; rintro e w' ⟨rfl, hw⟩; have hw := hw.symm; subst hw) | (go_at_call 43; refine (HH.out _).mono ?_; rintro e w' ⟨rfl, hw⟩; have hw := hw.symm; subst hw))
        go_ret
        exact ⟨ret_int HC.out.symm, rfl⟩
      · exact absurd rfl h4
  · have HC : Hid (classZ K a n = 1) := classZ_mem hz
    have hn := sizeB_yes h1
    rw [h1] at HW
    rw [h3] at HH
    clear h1 h3 hz HT
    rcases hn with rfl | rfl | rfl
    · clear h2
      go_enter Try.func15, Try.ntmps15
      go_wp2_with (first | (go_at_call 42; refine (HW.out _).mono ?_; rintro e w' ⟨rfl, hw⟩; have hw := hw.symm; subst hw) | (go_at_call 43; refine (HH.out _).mono ?_; rintro e w' ⟨rfl, hw⟩; have hw := hw.symm; subst hw))
      go_ret
      exact ⟨ret_int HC.out.symm, rfl⟩
    all_goals
      go_enter Try.func15, Try.ntmps15
      go_wp2_with (first | (go_at_call 42; refine (HW.out _).mono ?_; rintro e w' ⟨rfl, hw⟩; have hw := hw.symm; subst hw) | (go_at_call 43; refine (HH.out _).mono ?_; rintro e w' ⟨rfl, hw⟩; have hw := hw.symm; subst hw))
      go_ret
      exact ⟨ret_int HC.out.symm, rfl⟩

set_option maxHeartbeats 1600000 in
theorem rask14_any (K : Nat) (v : Option Addr) (cap : Nat) (a n : Int) (w : World) (hK : K ≤ 1024) (a0 : 0 ≤ a) (a1 : a < 4294967296) :
    Calls Try.prog 31 #[.slice v (64 * K) cap, .int .u32 a, .int .i64 n] w fun e w' => e = .returned (.int .i64 (ask14 K a n)) ∧ w' = w := by
  have HW : Hid (∀ W : World, Calls Try.prog 42 #[.int .i64 n] W fun e w' => e = .returned (.bool (sizeB n)) ∧ w' = W) := fun W => width_any n W
  have HL : Hid (∀ W : World, Calls Try.prog 15 #[.slice v (64 * K) cap, .int .u32 a, .int .i64 n] W fun e w' => e = .returned (.int .i64 (classZ K a n)) ∧ w' = W) := fun W => rclass14_any K v cap a n W hK a0 a1
  rcases askZ_cases K a n with ⟨h1, hz⟩ | ⟨h1, h2, hz⟩ | ⟨h1, h2, h3, hz⟩ | ⟨h1, h2, h3, hz⟩
  · have HC : Hid (ask14 K a n = 2) := by
      show ask14 K a n = 2
      unfold ask14; rw [if_neg (by simp [isDev, hz])]; exact hz
    rw [h1] at HW
    clear h1 hz HL
    go_enter Try.func31, Try.ntmps31
    go_wp2_with (go_at_call 42; refine (HW.out _).mono ?_; rintro e w' ⟨rfl, hw⟩; have hw := hw.symm; subst hw)
    go_ret
    exact ⟨ret_int HC.out.symm, rfl⟩
  · have HC : Hid (ask14 K a n = 5) := by
      show ask14 K a n = 5
      unfold ask14; rw [if_neg (by simp [isDev, hz])]; exact hz
    rw [h1] at HW
    have hn := sizeB_yes h1
    clear h1 hz HL
    rcases hn with rfl | rfl | rfl
    · omega
    all_goals
      have h2' : (a % _ != 0) = true := bne_iff_ne.2 h2
      clear h2
      go_enter Try.func31, Try.ntmps31
      go_wp2_with (go_at_call 42; refine (HW.out _).mono ?_; rintro e w' ⟨rfl, hw⟩; have hw := hw.symm; subst hw)
      go_ret
      exact ⟨ret_int HC.out.symm, rfl⟩
  all_goals
    have hcl : ∃ c z : Int, classZ K a n = c ∧ ask14 K a n = z ∧ ((c = 0 ∧ z = 6) ∨ (c = 1 ∧ z = 0) ∨ (c = 2 ∧ z = 0)) := by
      refine ⟨_, _, rfl, rfl, ?_⟩
      unfold classZ ask14
      rw [hz]
      cases isDev K a n <;> simp
    obtain ⟨c, z, e1, e2, hcz⟩ := hcl
    rw [e1] at HL
    rw [e2]
    have hn := sizeB_yes h1
    rw [h1] at HW
    clear h1 h3 hz e1 e2
    rcases hcz with ⟨rfl, rfl⟩ | ⟨rfl, rfl⟩ | ⟨rfl, rfl⟩ <;> rcases hn with rfl | rfl | rfl
    all_goals
      try (have hm : a % 1 = 0 := h2; clear hm h2)
      go_enter Try.func31, Try.ntmps31
      go_wp2_with (first | (go_at_call 42; refine (HW.out _).mono ?_; rintro e w' ⟨rfl, hw⟩; have hw := hw.symm; subst hw) | (go_at_call 15; refine (HL.out _).mono ?_; rintro e w' ⟨rfl, hw⟩; have hw := hw.symm; subst hw))
      go_ret
      exact ⟨rfl, rfl⟩
end Go.Proofs.Ytkbccccjjlkgbaa

/- Layer 10, the document's side: Put. -/
namespace Go.Proofs.Ytkbccccjjlkgbaa
open Go.RowKit
set_option linter.unusedVariables false
set_option maxRecDepth 100000

theorem put_three (b f : Nat → Int) (a len N : Nat) (h : a + len ≤ N) : rowL a b ++ rowL len f ++ rowL (N - (a + len)) (fun i => b (a + len + i)) = rowL N (bput b a len f) := by
  rw [rowL_append, rowL_append, show a + len + (N - (a + len)) = N from by omega]
  refine rowL_same fun i hi => ?_
  unfold bput
  by_cases c : i < a
  · rw [if_pos (by omega), if_pos c, if_neg (by omega)]
  · by_cases d : i < a + len
    · rw [if_pos d, if_neg c, if_pos (by omega)]
    · rw [if_neg d, if_neg (by omega)]; congr 1; omega

set_option maxHeartbeats 2000000 in
theorem rput10_any (K a : Nat) (addr : Int) (B cap xb xo len xcap : Nat) (b f : Nat → Int) (w : World) (hK : K ≤ 1024) (hB : RowB w B (64 * K) b) (ha : addr = 2147483648 + (a : Int)) (hl : 1 ≤ len) (hfit : a + len ≤ 64 * K) (hcap : 64 * K ≤ cap)
    (hsrc : ∀ i, i < len → w.cell? ⟨xb, xo + i, none⟩ = some (.int .u8 (f i))) :
    Calls Try.prog 55 #[.slice (some ⟨B, 0, none⟩) (64 * K) cap, .int .u32 addr, .slice (some ⟨xb, xo, none⟩) len xcap] w fun e w' => ∃ B' c, e = .returned (.slice (some ⟨B', 0, none⟩) (64 * K) c) ∧ (64 * K ≤ c ∧ w.heap.size ≤ B' ∧ RowB w' B' (64 * K) (bput b a len f)) ∧ Below w.heap.size w w' := by
  have h0 : 0 ≤ addr := by omega
  have h1 : addr < 2147549184 := by omega
  have e1 : addr - 2147483648 = (a : Int) := by omega
  have hbs : ∀ w : World, (Instr.buildSlice 30 0 #[]).run Try.prog w = .ok (.slice (some ⟨w.heap.size, 0, none⟩) 0 0) (w.alloc (.cells #[] 5)) := fun _ => by kernel_rfl
  have hsz : ∀ w : World, (sizeOf (Try.prog.elem 30)).run Try.prog w = .ok 1 w := fun _ => by kernel_rfl
  have hs1 : ∀ w : World, (Instr.sliceAt 30 (.slice (some ⟨B, 0, none⟩) (64 * K) cap) none (some (.int .i64 (a : Int))) none).run Try.prog w = .ok (.slice (some ⟨B, 0, none⟩) a cap) w := fun w => by
    rw [run_sliceAt_slice w _ _ _ _ _ Try.underlying30, run_slice_h w _ _ _ _ Try.underlying30 .i64 _ (by omega) (by omega), hsz]
    simp only [Result.andThen, sliced]
    rw [show ((a : Int)).toNat = a from by omega, if_neg (by omega)]
    simp [Addr.add_lit]
  obtain ⟨ad, had, hs2⟩ : ∃ ad : Addr, (64 * K - (a + len) > 0 → ad = ⟨B, a + len, none⟩) ∧ ∀ w : World, (Instr.sliceAt 30 (.slice (some ⟨B, 0, none⟩) (64 * K) cap) (some (.int .i64 ((a : Int) + (len : Int)))) none none).run Try.prog w = .ok (.slice (some ad) (64 * K - (a + len)) (cap - (a + len))) w := by
    refine ⟨if cap = a + len then ⟨B, 0, none⟩ else ⟨B, a + len, none⟩, fun h => by rw [if_neg (by omega)], fun w => ?_⟩
    rw [run_sliceAt_slice w _ _ _ _ _ Try.underlying30, run_slice_l w _ _ _ _ Try.underlying30 .i64 _ (by omega) (by omega), hsz]
    simp only [Result.andThen, sliced]
    rw [show ((a : Int) + (len : Int)).toNat = a + len from by omega]
    by_cases c : cap = a + len
    · rw [if_pos c, if_pos c]
    · rw [if_neg c, if_neg c]; simp [Addr.add_lit]
  have hwr : IntKind.i64.wrap ((a : Int) + (len : Int)) = (a : Int) + (len : Int) := by rw [IntKind.wrap_i64]; omega
  have HAD := Lib.hid had
  have HB := Lib.hid hB
  have HS := Lib.hid hsrc
  have HF : Hid (a + len ≤ 64 * K) := hfit
  have HC : Hid (64 * K ≤ cap) := hcap
  have hl1 : len ≤ 65536 := by omega
  have ha1 : a ≤ 65536 := by omega
  have h2 : (a : Int) + (len : Int) ≤ 65536 := by omega
  obtain ⟨i0, hi, hz0, hz1, hz2⟩ := info_parts Try.info5
  clear had hB hsrc hfit hcap ha hsz
  go_enter Try.func55, Try.ntmps55
  go_wp2_with fail
  have HA1 : Hid (∀ w1 : World, Below w.heap.size w w1 → ∀ j u, (rowL a b)[j]? = some u → w1.cell? ((⟨B, 0, none⟩ : Addr).add j) = some u) := fun w1 hb j u hj => by
    obtain ⟨h3, rfl⟩ := rowL_get hj
    have hc := HB.out j (by have := HF.out; omega)
    rw [Addr.add_lit, Nat.zero_add, hb.cell (World.block_lt_of_cell? w _ hc)]; exact hc
  have HA2 : Hid (∀ w1 : World, Below w.heap.size w w1 → ∀ j u, (rowL len f)[j]? = some u → w1.cell? ((⟨xb, xo, none⟩ : Addr).add j) = some u) := fun w1 hb j u hj => by
    obtain ⟨h3, rfl⟩ := rowL_get hj
    have hc := HS.out j h3
    rw [Addr.add_lit, hb.cell (World.block_lt_of_cell? w _ hc)]; exact hc
  have HA3 : Hid (∀ w1 : World, Below w.heap.size w w1 → ∀ j u, (rowL (64 * K - (a + len)) (fun i => b (a + len + i)))[j]? = some u → w1.cell? (ad.add j) = some u) := fun w1 hb j u hj => by
    obtain ⟨h3, rfl⟩ := rowL_get hj
    have hc := HB.out (a + len + j) (by omega)
    rw [HAD.out (by omega), Addr.add_lit, hb.cell (World.block_lt_of_cell? w _ hc)]; exact hc
  have hB0 : Below w.heap.size w (w.drew.alloc (.cells #[] 5)) := ((Below.refl w.heap.size w).drew).alloc (Nat.le_refl _) _
  have HB0 := Lib.hid hB0
  have HO0 : Hid ((w.drew.alloc (.cells #[] 5)).ownsRow w.heap.size 5 1 (.slice (some ⟨w.heap.size, 0, none⟩) 0 0) 0 []) := World.ownsRow_made w.drew #[] 0 (Nat.le_refl _) (by decide) rfl
  clear hB0
  go_region_law (first
    | (refine step_append_own rfl (.tmp 11) (.tmp 14) 30 rfl w.heap.size 5 i0 (.int .u8 0) 1 1 Try.underlying30 hi hz0 hz1 hz2 rfl (by decide) _ 0 [] rfl HO0.out ⟨B, 0, none⟩ a cap (rowL a b) rfl (by rw [rowL_length]; omega) (HA1.out _ HB0.out) (rowL_one _ _) (by unfold maxLen; omega) (by omega) HB0.out.size ?_
       intro v1 w1 hown1 hgr1 _
       have HO1 : Hid (w1.ownsRow w.heap.size 5 1 v1 a (rowL a b)) := by have h := hown1; rw [Nat.zero_add, List.nil_append] at h; exact h
       have HB1 : Hid (Below w.heap.size w w1) := HB0.out.grown hgr1 HB0.out.size (fun j hj => (HO0.out.lt j hj).1)
       clear hown1 hgr1)
    | (refine step_append_own rfl (.tmp 15) (.tmp 16) 30 rfl w.heap.size 5 i0 (.int .u8 0) 1 1 Try.underlying30 hi hz0 hz1 hz2 rfl (by decide) _ a (rowL a b) rfl HO1.out ⟨xb, xo, none⟩ len xcap (rowL len f) rfl (by rw [rowL_length]; omega) (HA2.out _ HB1.out) (rowL_one _ _) (by unfold maxLen; omega) (by omega) HB1.out.size ?_
       intro v2 w2 hown2 hgr2 _
       have HO2 := Lib.hid hown2
       have HB2 : Hid (Below w.heap.size w w2) := HB1.out.grown hgr2 HB1.out.size (fun j hj => (HO1.out.lt j hj).1)
       clear hown2 hgr2)
    | (refine step_append_own rfl (.tmp 17) (.tmp 23) 30 rfl w.heap.size 5 i0 (.int .u8 0) 1 1 Try.underlying30 hi hz0 hz1 hz2 rfl (by decide) _ (a + len) (rowL a b ++ rowL len f) rfl HO2.out ad (64 * K - (a + len)) (cap - (a + len)) (rowL (64 * K - (a + len)) (fun i => b (a + len + i))) rfl (by rw [rowL_length]; omega) (HA3.out _ HB2.out) (rowL_one _ _) (by unfold maxLen; omega) (by omega) HB2.out.size ?_
       intro v3 w3 hown3 hgr3 _
       have HO3 : Hid (w3.ownsRow w.heap.size 5 1 v3 (64 * K) (rowL (64 * K) (bput b a len f))) := by have h := hown3; rw [put_three b f a len (64 * K) HF.out, show a + len + (64 * K - (a + len)) = 64 * K from by have := HF.out; omega] at h; exact h
       have HB3 : Hid (Below w.heap.size w w3) := HB2.out.grown hgr3 HB2.out.size (fun j hj => (HO2.out.lt j hj).1)
       clear hown3 hgr3))
  all_goals
    obtain ⟨B', c, rfl, hc1, hc2, hc3⟩ := row_of_own HO3.out (by have := HF.out; omega)
    go_wp2
    go_ret
    exact ⟨B', c, rfl, ⟨hc1, hc2, hc3⟩, HB3.out⟩
end Go.Proofs.Ytkbccccjjlkgbaa

/- Layer 12: New. -/
namespace Go.Proofs.Ytkbccccjjlkgbaa
open Go.RowKit
set_option linter.unusedVariables false
set_option maxRecDepth 100000

/-- Ticks that do not fall. -/
def Rises (K : Nat) (T : Nat → Int) : Prop := ∀ i, i + 1 < K → T i ≤ T (i + 1)

/-- Arrivals, as cells. -/
def arrTo (T Y : Nat → Int) : Nat → List Value
  | 0 => []
  | k + 1 => arrTo T Y k ++ [.int .u64 (T k), .int .u8 (Y k)]
theorem arrTo_length (T Y : Nat → Int) : ∀ k, (arrTo T Y k).length = k * 2
  | 0 => rfl
  | k + 1 => by simp [arrTo, arrTo_length T Y k]; omega
theorem arrTo_at (T Y : Nat → Int) : ∀ n k, k < n → (arrTo T Y n)[k * 2]? = some (.int .u64 (T k)) ∧ (arrTo T Y n)[k * 2 + 1]? = some (.int .u8 (Y k))
  | 0, k, h => absurd h (by omega)
  | n + 1, k, h => by
    have hl := arrTo_length T Y n
    by_cases c : k < n
    · rw [arrTo, List.getElem?_append_left (by omega), List.getElem?_append_left (by omega)]
      exact arrTo_at T Y n k c
    · obtain rfl : k = n := by omega
      rw [arrTo, List.getElem?_append_right (by omega), List.getElem?_append_right (by omega), hl, Nat.sub_self, Nat.add_sub_cancel_left]
      exact ⟨rfl, rfl⟩
theorem arrTo_one (T Y : Nat → Int) : ∀ n, ∀ u ∈ arrTo T Y n, u.oneCell' = true
  | 0, u, h => by cases h
  | n + 1, u, h => by
    rw [arrTo] at h
    rcases List.mem_append.1 h with h | h
    · exact arrTo_one T Y n u h
    · simp at h
      rcases h with rfl | rfl <;> rfl
theorem arrTo_cells {w : World} {b o n : Nat} {T Y : Nat → Int} (h : ArrC w b o n T Y) : ∀ j u, (arrTo T Y n)[j]? = some u → w.cell? ⟨b, o + j, none⟩ = some u := by
  intro j u hj
  have hlt : j < n * 2 := by
    have := (List.getElem?_eq_some_iff.1 hj).1
    rwa [arrTo_length] at this
  obtain ⟨k, hk⟩ : ∃ k, j = k * 2 ∨ j = k * 2 + 1 := ⟨j / 2, by omega⟩
  have hkn : k < n := by omega
  obtain ⟨a1, a2⟩ := arrTo_at T Y n k hkn
  rcases hk with rfl | rfl
  · rw [a1] at hj; rw [(h k hkn).1]; exact hj
  · rw [a2] at hj; rw [← Nat.add_assoc, (h k hkn).2]; exact hj
theorem IsArr.src {w W : World} {a : Option Addr} {len cap : Nat} {T Y : Nat → Int} (h : IsArr w a len cap T Y) (hb : Below w.heap.size w W) :
    (Value.slice a len cap = .slice none 0 0 ∧ len = 0) ∨ ∃ ad c, Value.slice a len cap = .slice (some ad) len c ∧ ∀ j u, (arrTo T Y len)[j]? = some u → W.cell? (ad.add j) = some u := by
  rcases (h.on hb).2 with ⟨rfl, rfl, rfl⟩ | ⟨rfl, ad, rfl⟩ | ⟨b, off, rfl, hc⟩
  · exact .inl ⟨rfl, rfl⟩
  · exact .inr ⟨ad, cap, rfl, fun j u hj => by simp [arrTo] at hj⟩
  · exact .inr ⟨_, cap, rfl, fun j u hj => by rw [Addr.add_lit]; exact arrTo_cells hc j u hj⟩

set_option maxHeartbeats 400000 in
theorem cnew_long (a : Option Addr) (len cap : Nat) (w : World) (hl : len ≤ maxLen) (h : 256 < len) :
    Calls Try.prog 24 #[.slice a len cap] w fun e w' => e = .returned (.tuple #[.pointer none, .int .i64 3]) ∧ w' = w := by
  unfold maxLen at hl
  go_enter Try.func24, Try.ntmps24
  go_wp2
  go_ret2
  exact ⟨rfl, rfl⟩

set_option maxHeartbeats 1600000 in
theorem cnew_form {a : Option Addr} {len cap : Nat} {T Y : Nat → Int} (w : World) (hl : len ≤ 256) (ha : IsArr w a len cap T Y) (h : ¬ Rises len T) :
    Calls Try.prog 24 #[.slice a len cap] w fun e w' => e = .returned (.tuple #[.pointer none, .int .i64 1]) ∧ Q w w' := by
  have HN := Lib.hid h
  have h0 : 0 < len := by
    rcases Nat.eq_zero_or_pos len with rfl | h1
    · exact absurd (fun i hi => absurd hi (by omega)) h
    · exact h1
  obtain ⟨b, off, rfl, hc⟩ := ha.at h0
  have HA := Lib.hid hc
  clear hc ha h
  go_enter Try.func24, Try.ntmps24
  go_wp2_with fail
  go_loopw [4] (fun i wr => ∃ j : Nat, j < len ∧ i = .int .i64 ((j : Int) + 1) ∧ (∀ k, k < j → T k ≤ T (k + 1)) ∧ Q w wr) (fun i _ => len + 1 - (intOf i).toNat)
  case atStart => exact ⟨0, h0, rfl, fun k hk => absurd hk (Nat.not_lt_zero k), Q.refl _⟩
  case round =>
    obtain ⟨j, hj, rfl, hr, hq⟩ := hrel
    have HR := Lib.hid hr
    clear hr
    by_cases hlt : j + 1 < len
    · obtain ⟨nq0, rfl⟩ := hq
      have c0 : w.cell? ⟨b, off + j * 2, none⟩ = some (.int .u64 (T j)) := (HA.out j (by omega)).1
      have c1 : w.cell? ⟨b, off + (j + 1) * 2, none⟩ = some (.int .u64 (T (j + 1))) := (HA.out (j + 1) hlt).1
      have g1 : (0 : Int) ≤ (j : Int) + 1 := by omega
      have g2 : (j : Int) + 1 < len := by omega
      have g3 : ((j : Int) + 1).toNat = j + 1 := by omega
      have g4 : IntKind.i64.wrap (j : Int) = j := by rw [IntKind.wrap_i64]; omega
      have g5 : (j : Int) < len := by omega
      by_cases hle : T j ≤ T (j + 1)
      · have HR2 : Hid (∀ k, k < j + 1 → T k ≤ T (k + 1)) := fun k hk => by
          by_cases e : k = j
          · subst e; exact hle
          · exact HR.out k (by omega)
        generalize T j = x at c0 hle
        generalize T (j + 1) = y at c1 hle
        go_wp2_with fail
        go_quiet (fail)
        go_wp2
        go_roundw
        case rel => exact ⟨j + 1, hlt, by go_num, HR2.out, ⟨_, rfl⟩⟩
        case measure => simp [intOf]; omega
      · have hgt : T (j + 1) < T j := by omega
        clear hle
        generalize T j = x at c0 hgt
        generalize T (j + 1) = y at c1 hgt
        go_wp2_with fail
        go_quiet (fail)
        go_wp2
        go_ret2
        exact ⟨rfl, (Q.refl w).drewN _ |>.drewN _⟩
    · exact absurd (fun i hi => HR.out i (by omega)) HN.out

set_option maxHeartbeats 1600000 in
theorem cnew_yes {a : Option Addr} {len cap : Nat} {T Y : Nat → Int} (w : World) (hl : len ≤ 256) (ha : IsArr w a len cap T Y) (h : Rises len T) :
    Calls Try.prog 24 #[.slice a len cap] w fun e w' => ∃ R S, e = .returned (.tuple #[.pointer (some ⟨R, 0, none⟩), .int .i64 0]) ∧ IsCon w' R S len T Y CS.new ∧ (∀ k, S k → w.heap.size ≤ k) ∧ Below w.heap.size w w' := by
  have HN := Lib.hid h
  have HA := Lib.hid ha
  obtain ⟨i0, hi, hz0, hz1, hz2⟩ := info_parts (P := Try.prog) (e := 73) (z := .agg #[.int .u64 0, .int .u8 0]) (size := 2) (bytes := 16) (by kernel_rfl)
  clear h ha
  go_enter Try.func24, Try.ntmps24
  go_wp2_with fail
  go_loopw [4] (fun i wr => ∃ j : Nat, j ≤ len ∧ i = .int .i64 ((j : Int) + 1) ∧ Q w wr) (fun i _ => len + 1 - (intOf i).toNat)
  case atStart => exact ⟨0, Nat.zero_le _, rfl, Q.refl _⟩
  case round =>
    obtain ⟨j, hj, rfl, hq⟩ := hrel
    by_cases hlt : j + 1 < len
    · obtain ⟨b, off, rfl, hc⟩ := HA.out.at (by omega)
      obtain ⟨nq0, rfl⟩ := hq
      have c0 : w.cell? ⟨b, off + j * 2, none⟩ = some (.int .u64 (T j)) := (hc j (by omega)).1
      have c1 : w.cell? ⟨b, off + (j + 1) * 2, none⟩ = some (.int .u64 (T (j + 1))) := (hc (j + 1) hlt).1
      have hle := HN.out j hlt
      clear hc
      have g1 : (0 : Int) ≤ (j : Int) + 1 := by omega
      have g2 : (j : Int) + 1 < len := by omega
      have g3 : ((j : Int) + 1).toNat = j + 1 := by omega
      have g4 : IntKind.i64.wrap (j : Int) = j := by rw [IntKind.wrap_i64]; omega
      have g5 : (j : Int) < len := by omega
      generalize T j = x at c0 hle
      generalize T (j + 1) = y at c1 hle
      go_wp2_with fail
      go_quiet (fail)
      go_wp2
      go_roundw
      case rel => exact ⟨j + 1, by omega, by go_num, ⟨_, rfl⟩⟩
      case measure => simp [intOf]; omega
    · have HB0 : Hid (Below w.heap.size w (wr.alloc (.cells #[] 73))) := (hq.below _).alloc (hq.below w.heap.size).size _
      have hs : wr.heap.size = w.heap.size := by obtain ⟨k, rfl⟩ := hq; rfl
      have HO0 : Hid ((wr.alloc (.cells #[] 73)).ownsRow w.heap.size 73 2 (.slice (some ⟨wr.heap.size, 0, none⟩) 0 0) 0 []) := World.ownsRow_made wr #[] 0 (by omega) (by decide) rfl
      have HSRC := Lib.hid (HA.out.src HB0.out)
      clear hq HA HN hs
      have hlt' : ¬ ((j : Int) + 1 < len) := by omega
      have hj' : (j : Int) ≤ 256 := by omega
      clear hj hlt
      go_wp2_with (first
        | (at_builtin; refine wpList_append_src rfl (.tmp 26) (.tmp 27) 22 rfl w.heap.size 73 i0 (.agg #[.int .u64 0, .int .u8 0]) 2 16 Try.underlying22 hi hz0 hz1 hz2 rfl (by decide) _ 0 [] rfl HO0.out _ len (arrTo T Y len) rfl HSRC.out (arrTo_length _ _ _) (arrTo_one _ _ _) (by unfold maxLen; omega) (by omega) HB0.out.size ?_))
      intro v1 w1 hown1 hgr1 hnil
      have HB1 : Hid (Below w.heap.size w w1) := HB0.out.grown hgr1 HB0.out.size (fun j hj => (HO0.out.lt j hj).1)
      have hv : ∃ A c, v1 = .slice (some ⟨A, 0, none⟩) len c ∧ w.heap.size ≤ A ∧ A < w1.heap.size ∧ ArrC w1 A 0 len T Y := by
        obtain ⟨_, h0 | ⟨A, c, cur, rfl, hA, hg, _⟩⟩ := id hown1
        · exact absurd h0.1 (by simpa using hnil)
        · refine ⟨A, c, rfl, hA, (Array.getElem?_eq_some_iff.1 hg).1, fun i hi => ?_⟩
          rw [Nat.zero_add, hown1.cellAt _ (by omega), hown1.cellAt _ (by omega)]
          exact arrTo_at T Y len i hi
      obtain ⟨A, c, rfl, hA, hA1, hC⟩ := hv
      have HAA : Hid (w.heap.size ≤ A ∧ A < w1.heap.size) := ⟨hA, hA1⟩
      have HCC := Lib.hid hC
      clear hown1 hgr1 hnil hA hA1 hC
      go_wp2_with fail
      refine (fnew_row w1).mono ?_
      rintro e w2 ⟨F, rfl, hF, hi2, hb2⟩
      have HFF := Lib.hid hF
      have HI := Lib.hid (hi2 (fun _ => 0))
      have HB2 := Lib.hid hb2
      clear hF hi2 hb2
      go_wp2
      go_ret2
      have hs1 := HB1.out.size
      have hs2 := HB2.out.size
      have hA := HAA.out
      have hF := HFF.out
      have hF2 := HI.out.lt
      have hb3 : Below w2.heap.size w2 (w2.alloc (.cells #[.slice (some ⟨A, 0, none⟩) len c, .int .i64 0, .pointer (some ⟨F, 0, none⟩), .bool false, .slice none 0 0] 106)) := (Below.refl _ _).alloc (Nat.le_refl _) _
      refine ⟨w2.heap.size, fun k => k = w2.heap.size ∨ k = F ∨ k = A, rfl, ⟨F, A, c, .slice none 0 0, heap_alloc_new w2 _, HI.out.on hb3, World.ownsRow_nil _ _ _ _, (HCC.out.keep (fun _ => HB2.out.block A hA.2)).keep (fun hk => hb3.block A hk), ⟨Nat.zero_le _, hl⟩, ⟨by omega, by omega, by omega, fun k hk => by simp [Value.ownBlock] at hk⟩, ⟨.inl rfl, .inr (.inl rfl), .inr (.inr rfl), fun k hk => by simp [Value.ownBlock] at hk⟩, fun k hk => by simp; omega⟩, fun k hk => by omega, ?_⟩
      exact (HB1.out.trans (HB2.out.mono hs1)).alloc (by omega) _
end Go.Proofs.Ytkbccccjjlkgbaa

/- Layer 12, the document's side: its console as a value; Push and Pop of rows that may be nil; Right, Read, Write. -/
namespace Go.Proofs.Ytkbccccjjlkgbaa
open Go.RowKit
set_option linter.unusedVariables false
set_option maxRecDepth 100000

/-- A slice of n bytes in a block that is none of S. -/
def BsV (S : Nat → Prop) (w : World) (v : Value) (n : Nat) (f : Nat → Int) : Prop :=
  (v = .slice none 0 0 ∧ n = 0) ∨ ∃ b o cap, v = .slice (some ⟨b, o, none⟩) n cap ∧ n ≤ cap ∧ ¬ S b ∧ b < w.heap.size ∧ ∀ i, i < n → w.cell? ⟨b, o + i, none⟩ = some (.int .u8 (f i))
theorem BsV.form {S : Nat → Prop} {w : World} {v : Value} {n : Nat} {f : Nat → Int} (h : BsV S w v n f) : ∃ a c, v = .slice a n c := by
  rcases h with ⟨h1, h2⟩ | ⟨b, o, cap, h, _⟩
  · exact ⟨none, 0, by rw [h1, h2]⟩
  · exact ⟨_, _, h⟩
theorem BsV.on {S : Nat → Prop} {w w' : World} {v : Value} {n : Nat} {f : Nat → Int} (h : BsV S w v n f) (hb : Below w.heap.size w w') : BsV S w' v n f := by
  rcases h with h | ⟨b, o, cap, hv, hc, hS, hl, h⟩
  · exact .inl h
  · refine .inr ⟨b, o, cap, hv, hc, hS, Nat.lt_of_lt_of_le hl hb.size, fun i hi => ?_⟩
    rw [hb.cell (p := ⟨b, _, none⟩) hl]; exact h i hi
theorem BsV.bar {S : Nat → Prop} {P : Nat} {w w' : World} {v : Value} {n : Nat} {f : Nat → Int} (h : BsV S w v n f) (hb : Bar P w w') (hP : S P) : BsV S w' v n f := by
  rcases h with h | ⟨b, o, cap, hv, hc, hS, hl, h⟩
  · exact .inl h
  · exact .inr ⟨b, o, cap, hv, hc, hS, Nat.lt_of_lt_of_le hl hb.size, fun i hi => hb.cell (fun e => hS (e ▸ hP)) (h i hi)⟩
theorem BsV.step {S S' : Nat → Prop} {w w' : World} {v : Value} {n : Nat} {f : Nat → Int} (h : BsV S w v n f) (hf : Fr S w w') (he : Ext w S S') : BsV S' w' v n f := by
  rcases h with h | ⟨b, o, cap, hv, hc, hS, hl, h⟩
  · exact .inl h
  · refine .inr ⟨b, o, cap, hv, hc, fun e => ?_, Nat.lt_of_lt_of_le hl hf.size, fun i hi => hf.cell hS (h i hi)⟩
    rcases he b e with h1 | h1
    · exact hS h1
    · omega
theorem BsV.more {S S' : Nat → Prop} {w : World} {v : Value} {n : Nat} {f : Nat → Int} (h : BsV S w v n f) (he : ∀ k, S' k → S k ∨ w.heap.size ≤ k) : BsV S' w v n f := by
  rcases h with h | ⟨b, o, cap, hv, hc, hS, hl, h⟩
  · exact .inl h
  · refine .inr ⟨b, o, cap, hv, hc, fun e => ?_, hl, h⟩
    rcases he b e with h1 | h1
    · exact hS h1
    · omega
theorem BsV.row {S : Nat → Prop} {w : World} {v : Value} {n : Nat} {f : Nat → Int} (h : BsV S w v n f) : IsRowV w v n f := by
  rcases h with ⟨h1, h2⟩ | ⟨b, o, cap, hv, hc, hS, hl, h⟩
  · exact ⟨none, 0, by rw [h1, h2], .inl h2⟩
  · exact ⟨_, _, hv, .inr ⟨b, o, rfl, h⟩⟩
theorem BsV.src {S : Nat → Prop} {w W : World} {v : Value} {n : Nat} {f : Nat → Int} (h : BsV S w v n f) (hb : Below w.heap.size w W) : (v = .slice none 0 0 ∧ n = 0) ∨ ∃ ad c, v = .slice (some ad) n c ∧ ∀ j u, (rowL n f)[j]? = some u → W.cell? (ad.add j) = some u := by
  rcases h.on hb with h | ⟨b, o, cap, hv, hc, hS, hl, h⟩
  · exact .inl h
  · refine .inr ⟨_, _, hv, fun j u hj => ?_⟩
    obtain ⟨h3, rfl⟩ := rowL_get hj
    rw [Addr.add_lit]; exact h j h3
/-- The document's console. -/
def RefC (S : Nat → Prop) (w : World) (v : Value) (a : Option Addr) (len cap : Nat) (s : CS) : Prop :=
  ∃ rx out, v = .agg #[.slice a len cap, .int .i64 (s.c : Int), rx, .bool s.ov, out] ∧ BsV S w rx s.n s.f ∧ BsV S w out s.m s.g
theorem RefC.on {S : Nat → Prop} {w w' : World} {v : Value} {a : Option Addr} {len cap : Nat} {s : CS} (h : RefC S w v a len cap s) (hb : Below w.heap.size w w') : RefC S w' v a len cap s := by
  obtain ⟨rx, out, hv, h1, h2⟩ := h
  exact ⟨rx, out, hv, h1.on hb, h2.on hb⟩
theorem RefC.bar {S : Nat → Prop} {P : Nat} {w w' : World} {v : Value} {a : Option Addr} {len cap : Nat} {s : CS} (h : RefC S w v a len cap s) (hb : Bar P w w') (hP : S P) : RefC S w' v a len cap s := by
  obtain ⟨rx, out, hv, h1, h2⟩ := h
  exact ⟨rx, out, hv, h1.bar hb hP, h2.bar hb hP⟩
theorem RefC.step {S S' : Nat → Prop} {w w' : World} {v : Value} {a : Option Addr} {len cap : Nat} {s : CS} (h : RefC S w v a len cap s) (hf : Fr S w w') (he : Ext w S S') : RefC S' w' v a len cap s := by
  obtain ⟨rx, out, hv, h1, h2⟩ := h
  exact ⟨rx, out, hv, h1.step hf he, h2.step hf he⟩
theorem RefC.more {S S' : Nat → Prop} {w : World} {v : Value} {a : Option Addr} {len cap : Nat} {s : CS} (h : RefC S w v a len cap s) (he : ∀ k, S' k → S k ∨ w.heap.size ≤ k) : RefC S' w v a len cap s := by
  obtain ⟨rx, out, hv, h1, h2⟩ := h
  exact ⟨rx, out, hv, h1.more he, h2.more he⟩

set_option maxHeartbeats 800000 in
/-- append of n bytes and one, onto a new row. -/
theorem rpushV (S : Nat → Prop) {v : Value} {n : Nat} {f : Nat → Int} (x : Int) (w : World) (hS : ∀ k, S k → k < w.heap.size) (h : BsV S w v n f) (hn : n < 16) :
    Calls Try.prog 61 #[v, .int .u8 x] w fun e w' => ∃ g c, e = .returned (.tuple #[.slice (some ⟨g, 0, none⟩) (n + 1) c, .bool true]) ∧ BsV S w' (.slice (some ⟨g, 0, none⟩) (n + 1) c) (n + 1) (snoc n f x) ∧ Below w.heap.size w w' := by
  obtain ⟨i0, hi, hz0, hz1, hz2⟩ := info_parts Try.info5
  have HB0 : Hid (Below w.heap.size w (w.alloc (.cells #[] 5))) := (Below.refl w.heap.size w).alloc (Nat.le_refl _) _
  have HO0 : Hid ((w.alloc (.cells #[] 5)).ownsRow w.heap.size 5 1 (.slice (some ⟨w.heap.size, 0, none⟩) 0 0) 0 []) := World.ownsRow_made w #[] 0 (Nat.le_refl _) (by decide) rfl
  have HSRC := Lib.hid (h.src HB0.out)
  have HSS := Lib.hid hS
  obtain ⟨a, cap, rfl⟩ := h.form
  clear h hS
  go_enter Try.func61, Try.ntmps61
  go_wp2_with (first
    | (at_builtin; refine wpList_append_src rfl (.tmp 10) (.tmp 11) 30 rfl w.heap.size 5 i0 (.int .u8 0) 1 1 Try.underlying30 hi hz0 hz1 hz2 rfl (by decide) _ 0 [] rfl HO0.out _ n (rowL n f) rfl HSRC.out (by rw [rowL_length]; omega) (rowL_one _ _) (by unfold maxLen; omega) (by omega) HB0.out.size ?_))
  intro v1 w1 hown1 hgr1 _
  have HO1 : Hid (w1.ownsRow w.heap.size 5 1 v1 n (rowL n f)) := hown1
  have HB1 : Hid (Below w.heap.size w w1) := HB0.out.grown hgr1 HB0.out.size (fun j hj => (HO0.out.lt j hj).1)
  clear hown1 hgr1
  go_wp2_with (at_builtin; refine wpList_append_own _ rfl (.tmp 12) (.tmp 14) 30 rfl w.heap.size 5 i0 (.int .u8 0) 1 1 Try.underlying30 hi hz0 hz1 hz2 rfl (by decide) _ n (rowL n f) rfl (HO1.out.alloc _) ⟨w1.heap.size, 0, none⟩ 1 1 [.int .u8 x] rfl rfl ?c1 ?c2 ?c3 ?c4 ?c5 ?_)
  case c1 =>
    intro j u hj
    match j, hj with
    | 0, hj => simp at hj; subst hj; simp [Addr.add]
  case c2 => intro u hu; simp at hu; subst hu; rfl
  case c3 => unfold maxLen; omega
  case c4 => omega
  case c5 => have := HB1.out.size; simp; omega
  intro v2 w2 hown2 hgr2 _
  have HO2 : Hid (w2.ownsRow w.heap.size 5 1 v2 (n + 1) (rowL (n + 1) (snoc n f x))) := by have h := hown2; rw [rowL_snoc] at h; exact h
  have HB2 : Hid (Below w.heap.size w w2) := (HB1.out.alloc HB1.out.size _).grown hgr2 (by have := HB1.out.size; simp; omega) (fun j hj => (HO1.out.lt j hj).1)
  clear hown2 hgr2
  obtain ⟨g, c, rfl, hc1, hc2, hc3⟩ := row_of_own HO2.out (by omega)
  go_wp2
  go_ret2
  exact ⟨g, c, rfl, .inr ⟨g, 0, c, rfl, hc1, fun e => by have := HSS.out g e; omega, (HO2.out.lt g rfl).2, fun i hi => by rw [Nat.zero_add]; exact hc3 i hi⟩, HB2.out⟩

theorem rpushF (S : Nat → Prop) {v : Value} {f : Nat → Int} (x : Int) (w : World) (h : BsV S w v 16 f) :
    Calls Try.prog 61 #[v, .int .u8 x] w fun e w' => e = .returned (.tuple #[v, .bool false]) ∧ w' = w := by
  rcases h with ⟨_, h⟩ | ⟨b, o, cap, rfl, _⟩
  · omega
  · exact rpush_full b o cap x w

set_option maxHeartbeats 400000 in
theorem rpop0 (a : Option Addr) (cap : Nat) (w : World) :
    Calls Try.prog 75 #[.slice a 0 cap] w fun e w' => e = .returned (.tuple #[.slice a 0 cap, .int .u8 0, .bool false]) ∧ w' = w := by
  go_enter Try.func75, Try.ntmps75
  go_wp2
  refine bodyPost_ret (v := .tuple #[.slice a 0 cap, .int .u8 0, .bool false]) (by simp [results, Try.results75, go_sem]) rfl ?_
  exact ⟨rfl, rfl⟩
theorem rpopV (S : Nat → Prop) {v : Value} {n : Nat} {f : Nat → Int} (w : World) (h : BsV S w v (n + 1) f) (hn : n < 16) :
    Calls Try.prog 75 #[v] w fun e w' => ∃ a c, e = .returned (.tuple #[.slice a n c, .int .u8 (f 0), .bool true]) ∧ BsV S w' (.slice a n c) n (fun i => f (i + 1)) ∧ Below w.heap.size w w' := by
  rcases h with ⟨_, h⟩ | ⟨b, o, cap, rfl, hc, hS, hl, h⟩
  · omega
  · refine (rpop_yes w.heap.size b o n cap f w ⟨hc, by omega, h⟩ hn).mono ?_
    rintro e w' ⟨o', c, rfl, ⟨h1, h2, h3⟩, hq⟩
    have hb := hq.below w.heap.size
    exact ⟨_, _, rfl, .inr ⟨b, o', c, rfl, h1, hS, Nat.lt_of_lt_of_le hl hb.size, h3⟩, hb⟩

set_option maxHeartbeats 400000 in
theorem rright_long (a : Option Addr) (len cap : Nat) (w : World) (hl : len ≤ maxLen) (h : 256 < len) :
    Calls Try.prog 8 #[.slice a len cap] w fun e w' => e = .returned (.int .i64 3) ∧ w' = w := by
  unfold maxLen at hl
  go_enter Try.func8, Try.ntmps8
  go_wp2
  go_ret
  exact ⟨rfl, rfl⟩

set_option maxHeartbeats 1600000 in
theorem rright_form {a : Option Addr} {len cap : Nat} {T Y : Nat → Int} (w : World) (hl : len ≤ 256) (ha : IsArr w a len cap T Y) (h : ¬ Rises len T) :
    Calls Try.prog 8 #[.slice a len cap] w fun e w' => e = .returned (.int .i64 1) ∧ Q w w' := by
  have HN := Lib.hid h
  have h0 : 0 < len := by
    rcases Nat.eq_zero_or_pos len with rfl | h1
    · exact absurd (fun i hi => absurd hi (by omega)) h
    · exact h1
  obtain ⟨b, off, rfl, hc⟩ := ha.at h0
  have HA := Lib.hid hc
  clear hc ha h
  go_enter Try.func8, Try.ntmps8
  go_wp2_with fail
  go_loopw [3] (fun i wr => ∃ j : Nat, j < len ∧ i = .int .i64 ((j : Int) + 1) ∧ (∀ k, k < j → T k ≤ T (k + 1)) ∧ Q w wr) (fun i _ => len + 1 - (intOf i).toNat)
  case atStart => exact ⟨0, h0, rfl, fun k hk => absurd hk (Nat.not_lt_zero k), Q.refl _⟩
  case round =>
    obtain ⟨j, hj, rfl, hr, hq⟩ := hrel
    have HR := Lib.hid hr
    clear hr
    by_cases hlt : j + 1 < len
    · obtain ⟨nq0, rfl⟩ := hq
      have c0 : w.cell? ⟨b, off + j * 2, none⟩ = some (.int .u64 (T j)) := (HA.out j (by omega)).1
      have c1 : w.cell? ⟨b, off + (j + 1) * 2, none⟩ = some (.int .u64 (T (j + 1))) := (HA.out (j + 1) hlt).1
      have g1 : (0 : Int) ≤ (j : Int) + 1 := by omega
      have g2 : (j : Int) + 1 < len := by omega
      have g3 : ((j : Int) + 1).toNat = j + 1 := by omega
      have g4 : IntKind.i64.wrap (j : Int) = j := by rw [IntKind.wrap_i64]; omega
      have g5 : (j : Int) < len := by omega
      by_cases hle : T j ≤ T (j + 1)
      · have HR2 : Hid (∀ k, k < j + 1 → T k ≤ T (k + 1)) := fun k hk => by
          by_cases e : k = j
          · subst e; exact hle
          · exact HR.out k (by omega)
        generalize T j = x at c0 hle
        generalize T (j + 1) = y at c1 hle
        go_wp2_with fail
        go_quiet (fail)
        go_wp2
        go_roundw
        case rel => exact ⟨j + 1, hlt, by go_num, HR2.out, ⟨_, rfl⟩⟩
        case measure => simp [intOf]; omega
      · have hgt : T (j + 1) < T j := by omega
        clear hle
        generalize T j = x at c0 hgt
        generalize T (j + 1) = y at c1 hgt
        go_wp2_with fail
        go_quiet (fail)
        go_wp2
        go_ret
        exact ⟨rfl, (Q.refl w).drewN _ |>.drewN _⟩
    · exact absurd (fun i hi => HR.out i (by omega)) HN.out

set_option maxHeartbeats 1600000 in
theorem rright_yes {a : Option Addr} {len cap : Nat} {T Y : Nat → Int} (w : World) (hl : len ≤ 256) (ha : IsArr w a len cap T Y) (h : Rises len T) :
    Calls Try.prog 8 #[.slice a len cap] w fun e w' => e = .returned (.int .i64 0) ∧ Q w w' := by
  have HN := Lib.hid h
  have HA := Lib.hid ha
  clear h ha
  go_enter Try.func8, Try.ntmps8
  go_wp2_with fail
  go_loopw [3] (fun i wr => ∃ j : Nat, j ≤ len ∧ i = .int .i64 ((j : Int) + 1) ∧ Q w wr) (fun i _ => len + 1 - (intOf i).toNat)
  case atStart => exact ⟨0, Nat.zero_le _, rfl, Q.refl _⟩
  case round =>
    obtain ⟨j, hj, rfl, hq⟩ := hrel
    by_cases hlt : j + 1 < len
    · obtain ⟨b, off, rfl, hc⟩ := HA.out.at (by omega)
      obtain ⟨nq0, rfl⟩ := hq
      have c0 : w.cell? ⟨b, off + j * 2, none⟩ = some (.int .u64 (T j)) := (hc j (by omega)).1
      have c1 : w.cell? ⟨b, off + (j + 1) * 2, none⟩ = some (.int .u64 (T (j + 1))) := (hc (j + 1) hlt).1
      have hle := HN.out j hlt
      clear hc
      have g1 : (0 : Int) ≤ (j : Int) + 1 := by omega
      have g2 : (j : Int) + 1 < len := by omega
      have g3 : ((j : Int) + 1).toNat = j + 1 := by omega
      have g4 : IntKind.i64.wrap (j : Int) = j := by rw [IntKind.wrap_i64]; omega
      have g5 : (j : Int) < len := by omega
      generalize T j = x at c0 hle
      generalize T (j + 1) = y at c1 hle
      go_wp2_with fail
      go_quiet (fail)
      go_wp2
      go_roundw
      case rel => exact ⟨j + 1, by omega, by go_num, ⟨_, rfl⟩⟩
      case measure => simp [intOf]; omega
    · have hlt' : ¬ ((j : Int) + 1 < len) := by omega
      have hj' : (j : Int) ≤ 256 := by omega
      clear hj hlt
      go_wp2
      go_ret
      exact ⟨rfl, by simpa using hq⟩
end Go.Proofs.Ytkbccccjjlkgbaa

/- Layer 12, the document's Read and Write. -/
namespace Go.Proofs.Ytkbccccjjlkgbaa
open Go.RowKit
set_option linter.unusedVariables false
set_option maxRecDepth 100000

/-- A block of the five cells of a document's console. -/
def Box5 (w : World) (A : Nat) (a b c d e : Value) : Prop := w.heap[A]? = some (.cells #[a, b, c, d, e] 32 (0, 0))
theorem Box5.cells {w : World} {A : Nat} {a b c d e : Value} (h : Box5 w A a b c d e) : w.cell? ⟨A, 0, none⟩ = some a ∧ w.cell? ⟨A, 1, none⟩ = some b ∧ w.cell? ⟨A, 2, none⟩ = some c ∧ w.cell? ⟨A, 3, none⟩ = some d ∧ w.cell? ⟨A, 4, none⟩ = some e := (five_cells h).1
theorem Box5.free {w : World} {A : Nat} {a b c d e : Value} (h : Box5 w A a b c d e) : w.frozen? ⟨A, 0, none⟩ = false ∧ w.frozen? ⟨A, 1, none⟩ = false ∧ w.frozen? ⟨A, 2, none⟩ = false ∧ w.frozen? ⟨A, 3, none⟩ = false ∧ w.frozen? ⟨A, 4, none⟩ = false := (five_cells h).2
theorem Box5.lt {w : World} {A : Nat} {a b c d e : Value} (h : Box5 w A a b c d e) : A < w.heap.size := (Array.getElem?_eq_some_iff.1 h).1
theorem Box5.on {w w' : World} {A : Nat} {a b c d e : Value} (h : Box5 w A a b c d e) (hb : Below w.heap.size w w') : Box5 w' A a b c d e := by
  unfold Box5 at *
  rw [hb.block A (Array.getElem?_eq_some_iff.1 h).1]; exact h
theorem Box5.bar {w w' : World} {A P : Nat} {a b c d e : Value} (h : Box5 w A a b c d e) (hb : Bar P w w') (hne : A ≠ P) : Box5 w' A a b c d e := by
  unfold Box5 at *
  rw [hb.2.2.2.2 A (Array.getElem?_eq_some_iff.1 h).1 hne]; exact h
theorem Box5.fr {S : Nat → Prop} {w w' : World} {A : Nat} {a b c d e : Value} (h : Box5 w A a b c d e) (hf : Fr S w w') (hne : ¬ S A) : Box5 w' A a b c d e := by
  unfold Box5 at *
  rw [hf.block (Array.getElem?_eq_some_iff.1 h).1 hne]; exact h

/-- The two blocks at the head of the document's functions: the console that came, and the result. -/
abbrev zero5 : Obj := .cells #[.slice none 0 0, .int .i64 0, .slice none 0 0, .bool false, .slice none 0 0] 32
theorem two_boxes (w : World) (a b c d e : Value) :
    Box5 ((w.alloc (.cells #[a, b, c, d, e] 32)).alloc zero5) w.heap.size a b c d e ∧
    Box5 ((w.alloc (.cells #[a, b, c, d, e] 32)).alloc zero5) (w.heap.size + 1) (.slice none 0 0) (.int .i64 0) (.slice none 0 0) (.bool false) (.slice none 0 0) ∧
    Below w.heap.size w ((w.alloc (.cells #[a, b, c, d, e] 32)).alloc zero5) ∧
    ((w.alloc (.cells #[a, b, c, d, e] 32)).alloc zero5).heap.size = w.heap.size + 2 := by
  refine ⟨?_, ?_, ((Below.refl _ _).alloc (Nat.le_refl _) _).alloc (by simp) _, by simp⟩
  · unfold Box5
    rw [heap_alloc_old _ _ (by simp)]
    exact heap_alloc_new _ _
  · unfold Box5
    have := heap_alloc_new (w.alloc (.cells #[a, b, c, d, e] 32)) zero5
    simpa [zero5] using this
theorem bar5 (C : Nat) (w : World) (a b c d e : Value) : Bar C w (((((w.setCell ⟨C, 0, none⟩ a).setCell ⟨C, 1, none⟩ b).setCell ⟨C, 2, none⟩ c).setCell ⟨C, 3, none⟩ d).setCell ⟨C, 4, none⟩ e) := ((((Bar.setCell _ _ _ _).trans (Bar.setCell _ _ _ _)).trans (Bar.setCell _ _ _ _)).trans (Bar.setCell _ _ _ _)).trans (Bar.setCell _ _ _ _)

/-- The blocks of S, and both boxes. -/
def S2 (S : Nat → Prop) (w : World) (k : Nat) : Prop := S k ∨ k = w.heap.size ∨ k = w.heap.size + 1
theorem BsV.two {S : Nat → Prop} {w W : World} {v : Value} {n : Nat} {f : Nat → Int} (h : BsV S w v n f) (hb : Below w.heap.size w W) : BsV (S2 S w) W v n f :=
  (h.more (by intro k hk; rcases hk with h | h | h; exact .inl h; exact .inr (by omega); exact .inr (by omega))).on hb
theorem ref_end {S : Nat → Prop} {w W : World} {s : CS} {a : Option Addr} {len cap : Nat} {rx out : Value} (hB : Below w.heap.size w W) (hx : BsV (S2 S w) W rx s.n s.f) (ho : BsV (S2 S w) W out s.m s.g) :
    RefC S (((((W.setCell ⟨w.heap.size + 1, 0, none⟩ (.slice a len cap)).setCell ⟨w.heap.size + 1, 1, none⟩ (.int .i64 (s.c : Int))).setCell ⟨w.heap.size + 1, 2, none⟩ rx).setCell ⟨w.heap.size + 1, 3, none⟩ (.bool s.ov)).setCell ⟨w.heap.size + 1, 4, none⟩ out) (.agg #[.slice a len cap, .int .i64 (s.c : Int), rx, .bool s.ov, out]) a len cap s ∧
    Below w.heap.size w (((((W.setCell ⟨w.heap.size + 1, 0, none⟩ (.slice a len cap)).setCell ⟨w.heap.size + 1, 1, none⟩ (.int .i64 (s.c : Int))).setCell ⟨w.heap.size + 1, 2, none⟩ rx).setCell ⟨w.heap.size + 1, 3, none⟩ (.bool s.ov)).setCell ⟨w.heap.size + 1, 4, none⟩ out) := by
  have hc := bar5 (w.heap.size + 1) W (.slice a len cap) (.int .i64 (s.c : Int)) rx (.bool s.ov) out
  exact ⟨⟨_, _, rfl, (hx.bar hc (.inr (.inr rfl))).more (fun k hk => .inl (.inl hk)), (ho.bar hc (.inr (.inr rfl))).more (fun k hk => .inl (.inl hk))⟩, hB.trans (hc.below (by omega) hB.size)⟩
theorem bsv_set {S : Nat → Prop} {w W : World} {v u : Value} {n o : Nat} {f : Nat → Int} (h : BsV (S2 S w) W v n f) : BsV (S2 S w) (W.setCell ⟨w.heap.size, o, none⟩ u) v n f := h.bar (Bar.setCell _ _ _ _) (.inr (.inl rfl))
theorem below_set {w W : World} {u : Value} {o : Nat} (h : Below w.heap.size w W) : Below w.heap.size w (W.setCell ⟨w.heap.size, o, none⟩ u) := h.trans ((Bar.setCell w.heap.size o W u).below (Nat.le_refl _) h.size)

set_option maxRecDepth 100000 in
set_option maxHeartbeats 1600000 in
theorem rread_0 (S : Nat → Prop) {v : Value} {a : Option Addr} {len cap : Nat} {s : CS} (w : World) (hn : s.n ≤ 16) (hm : s.m ≤ 100000) (h : RefC S w v a len cap s) (hS : ∀ k, S k → k < w.heap.size) :
    Calls Try.prog 54 #[v, .int .i64 0] w fun e w' => ∃ v', e = .returned (.tuple #[v', .int .u32 (s.val 0)]) ∧ RefC S w' v' a len cap (s.rd 0) ∧ Below w.heap.size w w' := by
  obtain ⟨rx, out, rfl, hx, ho⟩ := h
  obtain ⟨ra, rc, rfl⟩ := hx.form
  obtain ⟨oa, oc, rfl⟩ := ho.form
  obtain ⟨hb1, hb2, hB0, hsz⟩ := two_boxes w (.slice a len cap) (.int .i64 (s.c : Int)) (.slice ra s.n rc) (.bool s.ov) (.slice oa s.m oc)
  obtain ⟨W0, hW0⟩ : ∃ W0, W0 = (w.alloc (.cells #[.slice a len cap, .int .i64 (s.c : Int), .slice ra s.n rc, .bool s.ov, .slice oa s.m oc] 32)).alloc zero5 := ⟨_, rfl⟩
  rw [← hW0] at hb1 hb2 hB0 hsz
  have HW0 := Lib.hid hW0
  have HX : Hid (BsV (S2 S w) W0 (.slice ra s.n rc) s.n s.f) := hx.two hB0
  have HO : Hid (BsV (S2 S w) W0 (.slice oa s.m oc) s.m s.g) := ho.two hB0
  have HB0 := Lib.hid hB0
  have HSZ := Lib.hid hsz
  have HB1 := Lib.hid hb1
  have HB2 := Lib.hid hb2
  have HS := Lib.hid hS
  clear hW0 hx ho hB0 hsz hb1 hb2 hS
  by_cases h0 : s.n = 0
  · have e1 : s.val 0 = 0 := by unfold CS.val; rw [if_pos rfl, if_pos h0]
    have e2 : s.rd 0 = s := by unfold CS.rd CS.pop; rw [if_pos rfl, if_pos h0]
    rw [e1, e2]
    have HP : Hid (Calls Try.prog 75 #[.slice ra s.n rc] W0 fun e w' => e = .returned (.tuple #[.slice ra s.n rc, .int .u8 0, .bool false]) ∧ w' = W0) := by rw [h0]; exact rpop0 ra rc W0
    clear h0 e1 e2
    obtain ⟨b0, b1, b2, b3, b4⟩ := HB1.out.cells
    obtain ⟨z0, z1, z2, z3, z4⟩ := HB1.out.free
    obtain ⟨r0, r1, r2, r3, r4⟩ := HB2.out.cells
    obtain ⟨y0, y1, y2, y3, y4⟩ := HB2.out.free
    go_enter Try.func54, Try.ntmps54
    go_wp2_with fail
    rw [← HW0.out]
    go_wp2_with fail
    refine HP.out.mono ?_
    rintro e w' ⟨rfl, hw⟩
    have hw := hw.symm
    subst hw
    go_wp2
    refine bodyPost_ret (v := .tuple #[.agg #[.slice a len cap, .int .i64 (s.c : Int), .slice ra s.n rc, .bool s.ov, .slice oa s.m oc], .int .u32 0]) (by simp [results, Try.results54, go_sem, r0, r1, r2, r3, r4]) rfl ?_
    obtain ⟨k1, k2⟩ := ref_end (s := s) (a := a) (len := len) (cap := cap) (below_set (o := 2) (u := .slice ra s.n rc) HB0.out) (bsv_set HX.out) (bsv_set HO.out)
    exact ⟨_, rfl, k1, k2⟩
  · obtain ⟨n, hn1⟩ : ∃ n, s.n = n + 1 := ⟨s.n - 1, by omega⟩
    have e1 : s.val 0 = IntKind.u32.wrap (s.f 0) := by unfold CS.val; rw [if_pos rfl, if_neg h0]
    have e2 : s.rd 0 = ⟨s.c, n, fun i => s.f (i + 1), s.ov, s.m, s.g⟩ := by unfold CS.rd CS.pop; rw [if_pos rfl, if_neg h0, hn1]; rfl
    rw [e1, e2]
    have HP : Hid (Calls Try.prog 75 #[.slice ra s.n rc] W0 fun e w' => ∃ a' c', e = .returned (.tuple #[.slice a' n c', .int .u8 (s.f 0), .bool true]) ∧ BsV (S2 S w) w' (.slice a' n c') n (fun i => s.f (i + 1)) ∧ Below W0.heap.size W0 w') := by
      have hx := HX.out
      rw [hn1] at hx ⊢
      exact rpopV (S2 S w) W0 hx (by omega)
    clear h0 e1 e2 hn1
    generalize s.f 0 = y at HP ⊢
    go_enter Try.func54, Try.ntmps54
    go_wp2_with fail
    rw [← HW0.out]
    obtain ⟨b0, b1, b2, b3, b4⟩ := HB1.out.cells
    go_wp2_with fail
    refine HP.out.mono ?_
    rintro e w1 ⟨a', c', rfl, hx1, hb1⟩
    have HX1 := Lib.hid hx1
    have HO1 := Lib.hid (HO.out.on hb1)
    have HC1 := Lib.hid (HB1.out.on hb1)
    have HD1 := Lib.hid (HB2.out.on hb1)
    have HB3 : Hid (Below w.heap.size w w1) := HB0.out.trans (hb1.mono HB0.out.size)
    clear hx1 hb1 b0 b1 b2 b3 b4
    obtain ⟨b0, b1, b2, b3, b4⟩ := HC1.out.cells
    obtain ⟨z0, z1, z2, z3, z4⟩ := HC1.out.free
    obtain ⟨r0, r1, r2, r3, r4⟩ := HD1.out.cells
    obtain ⟨y0, y1, y2, y3, y4⟩ := HD1.out.free
    go_wp2
    refine bodyPost_ret (v := .tuple #[.agg #[.slice a len cap, .int .i64 (s.c : Int), (.slice a' n c'), .bool s.ov, .slice oa s.m oc], .int .u32 (y % 4294967296)]) (by simp [results, Try.results54, go_sem, r0, r1, r2, r3, r4]) rfl ?_
    obtain ⟨k1, k2⟩ := ref_end (s := ⟨s.c, n, fun i => s.f (i + 1), s.ov, s.m, s.g⟩) (a := a) (len := len) (cap := cap) (below_set (o := 2) (u := .slice a' n c') HB3.out) (bsv_set HX1.out) (bsv_set HO1.out)
    exact ⟨_, rfl, k1, k2⟩

set_option maxRecDepth 100000 in
set_option maxHeartbeats 1600000 in
theorem rread_4 (S : Nat → Prop) {v : Value} {a : Option Addr} {len cap : Nat} {s : CS} (w : World) (hn : s.n ≤ 16) (hm : s.m ≤ 100000) (h : RefC S w v a len cap s) (hS : ∀ k, S k → k < w.heap.size) :
    Calls Try.prog 54 #[v, .int .i64 4] w fun e w' => ∃ v', e = .returned (.tuple #[v', .int .u32 (s.val 4)]) ∧ RefC S w' v' a len cap (s.rd 4) ∧ Below w.heap.size w w' := by
  obtain ⟨rx, out, rfl, hx, ho⟩ := h
  obtain ⟨ra, rc, rfl⟩ := hx.form
  obtain ⟨oa, oc, rfl⟩ := ho.form
  have e2 : s.rd 4 = s := by unfold CS.rd; rw [if_neg (by decide)]
  rw [e2]
  clear e2
  have hb : Below w.heap.size w ((w.alloc (.cells #[.slice a len cap, .int .i64 (s.c : Int), .slice ra s.n rc, .bool s.ov, .slice oa s.m oc] 32)).alloc (.cells #[.slice a len cap, .int .i64 (s.c : Int), .slice ra s.n rc, .bool s.ov, .slice oa s.m oc] 32)) := ((Below.refl _ _).alloc (Nat.le_refl _) _).alloc (by simp) _
  have HE : Hid (RefC S ((w.alloc (.cells #[.slice a len cap, .int .i64 (s.c : Int), .slice ra s.n rc, .bool s.ov, .slice oa s.m oc] 32)).alloc (.cells #[.slice a len cap, .int .i64 (s.c : Int), .slice ra s.n rc, .bool s.ov, .slice oa s.m oc] 32)) (.agg #[.slice a len cap, .int .i64 (s.c : Int), .slice ra s.n rc, .bool s.ov, .slice oa s.m oc]) a len cap s ∧ Below w.heap.size w ((w.alloc (.cells #[.slice a len cap, .int .i64 (s.c : Int), .slice ra s.n rc, .bool s.ov, .slice oa s.m oc] 32)).alloc (.cells #[.slice a len cap, .int .i64 (s.c : Int), .slice ra s.n rc, .bool s.ov, .slice oa s.m oc] 32))) := ⟨⟨_, _, rfl, hx.on hb, ho.on hb⟩, hb⟩
  have e0 : s.val 4 = (if 0 < s.n then (if s.ov = true then 3 else 1) else (if s.ov = true then 2 else 0)) := by unfold CS.val; rw [if_neg (by decide)]
  rw [e0]
  clear e0 hx ho hb hS hn hm
  rcases hov : s.ov with _ | _ <;> rw [hov] at HE <;> by_cases h0 : 0 < s.n <;>
    (first | rw [if_pos h0] | rw [if_neg h0])
  · clear hov
    go_enter Try.func54, Try.ntmps54
    go_wp2
    refine bodyPost_ret (v := .tuple #[.agg #[.slice a len cap, .int .i64 (s.c : Int), .slice ra s.n rc, .bool false, .slice oa s.m oc], .int .u32 1]) (by simp [results, Try.results54, go_sem]) rfl ?_
    exact ⟨_, rfl, HE.out⟩
  · clear hov
    go_enter Try.func54, Try.ntmps54
    go_wp2
    refine bodyPost_ret (v := .tuple #[.agg #[.slice a len cap, .int .i64 (s.c : Int), .slice ra s.n rc, .bool false, .slice oa s.m oc], .int .u32 0]) (by simp [results, Try.results54, go_sem]) rfl ?_
    exact ⟨_, rfl, HE.out⟩
  · clear hov
    go_enter Try.func54, Try.ntmps54
    go_wp2
    refine bodyPost_ret (v := .tuple #[.agg #[.slice a len cap, .int .i64 (s.c : Int), .slice ra s.n rc, .bool true, .slice oa s.m oc], .int .u32 3]) (by simp [results, Try.results54, go_sem]) rfl ?_
    exact ⟨_, rfl, HE.out⟩
  · clear hov
    go_enter Try.func54, Try.ntmps54
    go_wp2
    refine bodyPost_ret (v := .tuple #[.agg #[.slice a len cap, .int .i64 (s.c : Int), .slice ra s.n rc, .bool true, .slice oa s.m oc], .int .u32 2]) (by simp [results, Try.results54, go_sem]) rfl ?_
    exact ⟨_, rfl, HE.out⟩

set_option maxRecDepth 100000 in
set_option maxHeartbeats 1600000 in
theorem rwrite_4 (S : Nat → Prop) {v : Value} {a : Option Addr} {len cap : Nat} {s : CS} (x : Int) (w : World) (hn : s.n ≤ 16) (hm : s.m ≤ 100000) (h : RefC S w v a len cap s) (hS : ∀ k, S k → k < w.heap.size) :
    Calls Try.prog 58 #[v, .int .i64 4, .int .u32 x] w fun e w' => ∃ v', e = .returned v' ∧ RefC S w' v' a len cap (s.wr 4 x) ∧ Below w.heap.size w w' := by
  obtain ⟨rx, out, rfl, hx, ho⟩ := h
  obtain ⟨ra, rc, rfl⟩ := hx.form
  obtain ⟨oa, oc, rfl⟩ := ho.form
  have e2 : s.wr 4 x = ⟨s.c, s.n, s.f, false, s.m, s.g⟩ := by unfold CS.wr; rw [if_neg (by decide)]
  rw [e2]
  clear e2
  have hb : Below w.heap.size w ((w.alloc (.cells #[.slice a len cap, .int .i64 (s.c : Int), .slice ra s.n rc, .bool false, .slice oa s.m oc] 32)).alloc (.cells #[.slice a len cap, .int .i64 (s.c : Int), .slice ra s.n rc, .bool false, .slice oa s.m oc] 32)) := ((Below.refl _ _).alloc (Nat.le_refl _) _).alloc (by simp) _
  have HE : Hid (RefC S ((w.alloc (.cells #[.slice a len cap, .int .i64 (s.c : Int), .slice ra s.n rc, .bool false, .slice oa s.m oc] 32)).alloc (.cells #[.slice a len cap, .int .i64 (s.c : Int), .slice ra s.n rc, .bool false, .slice oa s.m oc] 32)) (.agg #[.slice a len cap, .int .i64 (s.c : Int), .slice ra s.n rc, .bool false, .slice oa s.m oc]) a len cap ⟨s.c, s.n, s.f, false, s.m, s.g⟩ ∧ Below w.heap.size w ((w.alloc (.cells #[.slice a len cap, .int .i64 (s.c : Int), .slice ra s.n rc, .bool false, .slice oa s.m oc] 32)).alloc (.cells #[.slice a len cap, .int .i64 (s.c : Int), .slice ra s.n rc, .bool false, .slice oa s.m oc] 32))) := ⟨⟨_, _, rfl, hx.on hb, ho.on hb⟩, hb⟩
  clear hx ho hb hS hn hm
  go_enter Try.func58, Try.ntmps58
  go_wp2
  refine bodyPost_ret (v := .agg #[.slice a len cap, .int .i64 (s.c : Int), .slice ra s.n rc, .bool false, .slice oa s.m oc]) (by simp [results, Try.results58, go_sem]) rfl ?_
  exact ⟨_, rfl, HE.out⟩

set_option maxRecDepth 100000 in
set_option maxHeartbeats 1600000 in
theorem rwrite_0 (S : Nat → Prop) {v : Value} {a : Option Addr} {len cap : Nat} {s : CS} (x : Int) (x0 : 0 ≤ x) (x1 : x < 4294967296) (w : World) (hn : s.n ≤ 16) (hm : s.m ≤ 100000) (h : RefC S w v a len cap s) (hS : ∀ k, S k → k < w.heap.size) :
    Calls Try.prog 58 #[v, .int .i64 0, .int .u32 x] w fun e w' => ∃ v', e = .returned v' ∧ RefC S w' v' a len cap (s.wr 0 x) ∧ Below w.heap.size w w' := by
  obtain ⟨rx, out, rfl, hx, ho⟩ := h
  obtain ⟨ra, rc, rfl⟩ := hx.form
  have HSRC0 := Lib.hid ho
  obtain ⟨oa, oc, rfl⟩ := ho.form
  obtain ⟨hb1, hb2, hB0, hsz⟩ := two_boxes w (.slice a len cap) (.int .i64 (s.c : Int)) (.slice ra s.n rc) (.bool s.ov) (.slice oa s.m oc)
  obtain ⟨W0, hW0⟩ : ∃ W0, W0 = (w.alloc (.cells #[.slice a len cap, .int .i64 (s.c : Int), .slice ra s.n rc, .bool s.ov, .slice oa s.m oc] 32)).alloc zero5 := ⟨_, rfl⟩
  rw [← hW0] at hb1 hb2 hB0 hsz
  have HW0 := Lib.hid hW0
  have HX : Hid (BsV (S2 S w) W0 (.slice ra s.n rc) s.n s.f) := hx.two hB0
  have HO : Hid (BsV (S2 S w) W0 (.slice oa s.m oc) s.m s.g) := ho.two hB0
  have HB0 := Lib.hid hB0
  have HSZ := Lib.hid hsz
  have HB1 := Lib.hid hb1
  have HB2 := Lib.hid hb2
  have HS := Lib.hid hS
  obtain ⟨i0, hi, hz0, hz1, hz2⟩ := info_parts Try.info5
  have hbE : Below W0.heap.size W0 (W0.alloc (.cells #[] 5)) := (Below.refl _ _).alloc (Nat.le_refl _) _
  have HO0 : Hid ((W0.alloc (.cells #[] 5)).ownsRow (w.heap.size + 2) 5 1 (.slice (some ⟨w.heap.size + 1 + 1, 0, none⟩) 0 0) 0 []) := by
    have h0 := World.ownsRow_made (e := 5) (size := 1) W0 #[] 0 (Nat.le_refl _) (by decide) rfl
    rw [hsz] at h0
    exact h0
  have HSRC := Lib.hid (HO.out.src hbE)
  have HC0 := Lib.hid (hb1.on hbE)
  have HD0 := Lib.hid (hb2.on hbE)
  have HXX := Lib.hid hx
  have HBE : Hid (Below w.heap.size w (W0.alloc (.cells #[] 5))) := hB0.trans (hbE.mono hB0.size)
  have HZE : Hid (w.heap.size + 2 ≤ (W0.alloc (.cells #[] 5)).heap.size) := by have := hbE.size; show _ ≤ _; omega
  have e2 : s.wr 0 x = ⟨s.c, s.n, s.f, s.ov, s.m + 1, snoc s.m s.g (x % 256)⟩ := by unfold CS.wr; rw [if_pos rfl]
  rw [e2]
  clear e2 hW0 hx ho hB0 hsz hb1 hb2 hS hbE HSRC0
  go_enter Try.func58, Try.ntmps58
  go_wp2_with (first
    | (at_builtin; rw [← HW0.out]; refine wpList_append_src rfl (.tmp 9) (.tmp 11) 30 rfl (w.heap.size + 2) 5 i0 (.int .u8 0) 1 1 Try.underlying30 hi hz0 hz1 hz2 rfl (by decide) _ 0 [] rfl HO0.out _ s.m (rowL s.m s.g) rfl HSRC.out (by rw [rowL_length]; omega) (rowL_one _ _) (by unfold maxLen; omega) (by omega) HZE.out ?_))
  intro v1 w1 hown1 hgr1 _
  have hb1 : Below (w.heap.size + 2) (W0.alloc (.cells #[] 5)) w1 := (Below.refl _ _).grown hgr1 HZE.out (fun j hj => (HO0.out.lt j hj).1)
  have HO1 : Hid (w1.ownsRow (w.heap.size + 2) 5 1 v1 s.m (rowL s.m s.g)) := hown1
  have HB1' : Hid (Below w.heap.size w w1) := HBE.out.trans (hb1.mono (by omega))
  have HC1 : Hid (Box5 w1 w.heap.size (.slice a len cap) (.int .i64 (s.c : Int)) (.slice ra s.n rc) (.bool s.ov) (.slice oa s.m oc)) := by
    have h := HC0.out
    unfold Box5 at *
    rw [hb1.block _ (by omega)]; exact h
  have HD1 : Hid (Box5 w1 (w.heap.size + 1) (.slice none 0 0) (.int .i64 0) (.slice none 0 0) (.bool false) (.slice none 0 0)) := by
    have h := HD0.out
    unfold Box5 at *
    rw [hb1.block _ (by omega)]; exact h
  have HX1 : Hid (BsV (S2 S w) w1 (.slice ra s.n rc) s.n s.f) := HXX.out.two HB1'.out
  have HZ1 : Hid (w.heap.size + 2 ≤ w1.heap.size) := by have := HZE.out; have := hb1.size; show _ ≤ _; omega
  clear hown1 hgr1 hb1
  have x2 : x.tmod 256 = x % 256 := Int.tmod_eq_emod_of_nonneg x0
  have x3 : x % 256 % 256 = x % 256 := Int.emod_emod_of_dvd x (Int.dvd_refl _)
  go_wp2_with (at_builtin; refine wpList_append_own _ rfl (.tmp 12) (.tmp 16) 30 rfl (w.heap.size + 2) 5 i0 (.int .u8 0) 1 1 Try.underlying30 hi hz0 hz1 hz2 rfl (by decide) _ s.m (rowL s.m s.g) rfl (HO1.out.alloc _) ⟨w1.heap.size, 0, none⟩ 1 1 [.int .u8 (x % 256)] rfl rfl ?c1 ?c2 ?c3 ?c4 ?c5 ?_)
  case c1 =>
    intro j u hj
    match j, hj with
    | 0, hj => simp at hj; subst hj; simp [Addr.add]
  case c2 => intro u hu; simp at hu; subst hu; rfl
  case c3 => unfold maxLen; omega
  case c4 => omega
  case c5 => have := HZ1.out; simp; omega
  intro v2 w2 hown2 hgr2 _
  have hb2 : Below (w.heap.size + 2) w1 w2 := ((Below.refl _ _).alloc HZ1.out _).grown hgr2 (by have := HZ1.out; simp; omega) (fun j hj => (HO1.out.lt j hj).1)
  have HB2' : Hid (Below w.heap.size w w2) := HB1'.out.trans (hb2.mono (by omega))
  have HX2 : Hid (BsV (S2 S w) w2 (.slice ra s.n rc) s.n s.f) := HXX.out.two HB2'.out
  have HC2 : Hid (Box5 w2 w.heap.size (.slice a len cap) (.int .i64 (s.c : Int)) (.slice ra s.n rc) (.bool s.ov) (.slice oa s.m oc)) := by
    have h := HC1.out
    unfold Box5 at *
    rw [hb2.block _ (by omega)]; exact h
  have HD2 : Hid (Box5 w2 (w.heap.size + 1) (.slice none 0 0) (.int .i64 0) (.slice none 0 0) (.bool false) (.slice none 0 0)) := by
    have h := HD1.out
    unfold Box5 at *
    rw [hb2.block _ (by omega)]; exact h
  have HO2 : Hid (w2.ownsRow (w.heap.size + 2) 5 1 v2 (s.m + 1) (rowL (s.m + 1) (snoc s.m s.g (x % 256)))) := by have h := hown2; rw [rowL_snoc] at h; exact h
  clear hown2 hgr2 hb2
  obtain ⟨g, c, rfl, hc1, hc2, hc3⟩ := row_of_own HO2.out (by omega)
  have HG : Hid (BsV (S2 S w) w2 (.slice (some ⟨g, 0, none⟩) (s.m + 1) c) (s.m + 1) (snoc s.m s.g (x % 256))) :=
    .inr ⟨g, 0, c, rfl, hc1, fun e => by rcases e with e | e | e; (have := HS.out g e; omega); omega; omega, (HO2.out.lt g rfl).2, fun i hi => by rw [Nat.zero_add]; exact hc3 i hi⟩
  clear hc1 hc2 hc3
  obtain ⟨b0, b1, b2, b3, b4⟩ := HC2.out.cells
  obtain ⟨z0, z1, z2, z3, z4⟩ := HC2.out.free
  obtain ⟨r0, r1, r2, r3, r4⟩ := HD2.out.cells
  obtain ⟨y0, y1, y2, y3, y4⟩ := HD2.out.free
  go_wp2
  refine bodyPost_ret (v := .agg #[.slice a len cap, .int .i64 (s.c : Int), .slice ra s.n rc, .bool s.ov, .slice (some ⟨g, 0, none⟩) (s.m + 1) c]) (by simp [results, Try.results58, go_sem, r0, r1, r2, r3, r4]) rfl ?_
  obtain ⟨k1, k2⟩ := ref_end (s := ⟨s.c, s.n, s.f, s.ov, s.m + 1, snoc s.m s.g (x % 256)⟩) (a := a) (len := len) (cap := cap) (below_set (o := 4) (u := .slice (some ⟨g, 0, none⟩) (s.m + 1) c) HB2'.out) (bsv_set HX2.out) (bsv_set HG.out)
  exact ⟨_, rfl, k1, k2⟩
end Go.Proofs.Ytkbccccjjlkgbaa

/- A whole struct out of a block and into one, the cells whatever they are. -/
namespace Go.Proofs.Ytkbccccjjlkgbaa
open Go.RowKit
set_option linter.unusedVariables false

theorem wpList_load_row {P : Program} {ops : Array Oper} {rest : List Oper} {op : Oper} {a : Act} {w : World} {Q : Exit → Act → World → Prop} (hgd : op.guard = none) (ty : TypeId) (x : Operand) (ho : op.op = .load ty x)
    (b : Nat) (t : TypeId) (hx : a.eval x = .pointer (some ⟨b, 0, none⟩)) (cs : Array Value) (d : TypeDesc) (hg : w.heap[b]? = some (.cells cs t (0, 0)))
    (hu : P.underlying ty = some d) (hd : (match d with | .struct _ | .array _ _ => true | _ => false) = true) (hi : (P.info? ty).map (·.size) = some cs.size)
    (h : wpList P ops Q rest (a.put op.dst (.agg cs)) w) : wpList P ops Q (op :: rest) a w :=
  wpList_plain hgd fun _ hK => by
    unfold Oper.wp execOp
    simp only [ho, hx, Instr.loadAt, Instr.sureAddr, Sem.run_bind, Sem.run_pure, Result.andThen_ok, run_loadVar_row w b t ty cs (0, 0) d hg hu hd hi]
    exact hK _ _ h

theorem wpList_store_row {P : Program} {ops : Array Oper} {rest : List Oper} {op : Oper} {a : Act} {w : World} {Q : Exit → Act → World → Prop} (hgd : op.guard = none) (ty : TypeId) (x y : Operand) (ho : op.op = .store ty x y)
    (b : Nat) (t : TypeId) (old cells : Array Value) (hx : a.eval x = .pointer (some ⟨b, 0, none⟩)) (hy : a.eval y = .agg cells) (hg : w.heap[b]? = some (.cells old t (0, 0)))
    (hi : (P.info? ty).map (·.size) = some cells.size) (hs : old.size = cells.size) (h1 : cells.all (·.oneCell') = true)
    (h : wpList P ops Q rest (a.put op.dst undef) (w.setRow b cells)) : wpList P ops Q (op :: rest) a w :=
  wpList_plain hgd fun _ hK => by
    unfold Oper.wp execOp
    simp only [ho, hx, hy, Instr.storeAt, Instr.sureAddr, Sem.run_bind, Sem.run_pure, Result.andThen_ok, run_storeVar_row w b t ty old cells hg hi hs h1]
    exact hK _ _ h
end Go.Proofs.Ytkbccccjjlkgbaa
