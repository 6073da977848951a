/- Layer 16: Read of any register, the program's and the document's; New; what the statements read of a file; awake. -/
import Derived.Test.YtibhlbggnkobeaaDoorCsrReadA
import Derived.Test.YtibhlbggnkobeaaDoorCsrReadB
import Derived.Test.YtibhlbggnkobeaaDoorCsrReadC
import Derived.Test.YtibhlbggnkobeaaDoorCsrReadD
import Derived.Test.YtibhlbggnkobeaaDoorCsrRefRA
import Derived.Test.YtibhlbggnkobeaaDoorCsrRefRB
namespace Go.Proofs.YtibhlbggnkobeaaDoor
open Go.RowKit
set_option linter.unusedVariables false
set_option linter.unusedSimpArgs false

theorem cread_any (K E : Nat → Int) (k : Nat) (w : World) (hk : k < 23) (he : EnvB E) (ht : RegTab w) :
    Calls Tryd.prog 5 #[.agg #[.int .u32 (K 0), .int .u32 (K 1), .int .u32 (K 2), .int .u32 (K 3), .int .u32 (K 4), .int .u32 (K 5), .int .u32 (K 6), .int .u64 (K 7), .int .u64 (K 8)], .int .i64 (mnum k), .agg #[.int .u64 (E 0), .int .u64 (E 1), .int .u64 (E 2), .int .u32 (E 3)]] w fun e w' => e = .returned (.tuple #[.int .u32 (readC K E k), .int .i64 0]) ∧ Below w.heap.size w w' := by
  match k, hk with
  | 0, hk => exact cread_kept K E 0 0 w hk rfl ht
  | 2, hk => exact cread_kept K E 2 1 w hk rfl ht
  | 3, hk => exact cread_kept K E 3 2 w hk rfl ht
  | 4, hk => exact cread_kept K E 4 3 w hk rfl ht
  | 5, hk => exact cread_kept K E 5 4 w hk rfl ht
  | 6, hk => exact cread_kept K E 6 5 w hk rfl ht
  | 7, hk => exact cread_kept K E 7 6 w hk rfl ht
  | 8, _ => exact cread_8 K E w he ht
  | 9, _ => exact cread_9 K E w he ht
  | 10, _ => exact cread_10 K E w he ht
  | 11, _ => exact cread_11 K E w he ht
  | 12, _ => exact cread_12 K E w he ht
  | 13, _ => exact cread_13 K E w he ht
  | 14, _ => exact cread_14 K E w he ht
  | 15, _ => exact cread_15 K E w he ht
  | 16, _ => exact cread_16 K E w he ht
  | 17, _ => exact cread_17 K E w he ht
  | 18, _ => exact cread_18 K E w he ht
  | 1, hk => exact cread_fixed K E 1 w hk rfl (by omega) ht
  | 19, hk => exact cread_fixed K E 19 w hk rfl (by omega) ht
  | 20, hk => exact cread_fixed K E 20 w hk rfl (by omega) ht
  | 21, hk => exact cread_fixed K E 21 w hk rfl (by omega) ht
  | 22, hk => exact cread_fixed K E 22 w hk rfl (by omega) ht
  | k + 23, hk => exact absurd hk (by omega)

theorem rread16_any (K E : Nat → Int) (k : Nat) (w : World) (hk : k < 23) (he : EnvB E) :
    Calls Tryd.prog 8 #[.agg #[.int .u32 (K 0), .int .u32 (K 1), .int .u32 (K 2), .int .u32 (K 3), .int .u32 (K 4), .int .u32 (K 5), .int .u32 (K 6), .int .u64 (K 7), .int .u64 (K 8)], .int .i64 (mnum k), .agg #[.int .u64 (E 0), .int .u64 (E 1), .int .u64 (E 2), .int .u32 (E 3)]] w fun e w' => e = .returned (.int .u32 (readC K E k)) ∧ Below w.heap.size w w' := by
  match k, hk with
  | 0, hk => exact rread16_0 K E w
  | 2, hk => exact rread16_2 K E w
  | 3, hk => exact rread16_3 K E w
  | 4, hk => exact rread16_4 K E w
  | 5, hk => exact rread16_5 K E w
  | 6, hk => exact rread16_6 K E w
  | 7, hk => exact rread16_7 K E w
  | 8, _ => exact rread16_8 K E w
  | 9, _ => exact rread16_9 K E w he
  | 10, _ => exact rread16_10 K E w he
  | 11, _ => exact rread16_11 K E w he
  | 12, _ => exact rread16_12 K E w he
  | 13, _ => exact rread16_13 K E w he
  | 14, _ => exact rread16_14 K E w he
  | 15, _ => exact rread16_15 K E w he
  | 16, _ => exact rread16_16 K E w he
  | 17, _ => exact rread16_17 K E w he
  | 18, _ => exact rread16_18 K E w he
  | 1, hk => exact rread16_fixed K E 1 w hk (by omega)
  | 19, hk => exact rread16_fixed K E 19 w hk (by omega)
  | 20, hk => exact rread16_fixed K E 20 w hk (by omega)
  | 21, hk => exact rread16_fixed K E 21 w hk (by omega)
  | 22, hk => exact rread16_fixed K E 22 w hk (by omega)
  | k + 23, hk => exact absurd hk (by omega)

/-- A file at first; nothing at all. -/
def newK : Nat → Int
  | 0 => 6144
  | _ => 0
def zeroK : Nat → Int := fun _ => 0

set_option maxHeartbeats 800000 in
theorem cnew_any (w : World) :
    Calls Tryd.prog 11 #[] w fun e w' => e = .returned (.agg #[.int .u32 (newK 0), .int .u32 (newK 1), .int .u32 (newK 2), .int .u32 (newK 3), .int .u32 (newK 4), .int .u32 (newK 5), .int .u32 (newK 6), .int .u64 (newK 7), .int .u64 (newK 8)]) ∧ Below w.heap.size w w' := by
  go_enter Tryd.func11, Tryd.ntmps11
  go_wp2
  refine bodyPost_ret (v := .agg #[.int .u32 (newK 0), .int .u32 (newK 1), .int .u32 (newK 2), .int .u32 (newK 3), .int .u32 (newK 4), .int .u32 (newK 5), .int .u32 (newK 6), .int .u64 (newK 7), .int .u64 (newK 8)]) (by simp [results, Tryd.results11, go_sem, newK]) rfl ?_
  exact ⟨rfl, (Below.refl _ _).alloc (Nat.le_refl _) _⟩

set_option maxHeartbeats 800000 in
theorem rnew16_any (w : World) :
    Calls Tryd.prog 12 #[] w fun e w' => e = .returned (.agg #[.int .u32 (newK 0), .int .u32 (newK 1), .int .u32 (newK 2), .int .u32 (newK 3), .int .u32 (newK 4), .int .u32 (newK 5), .int .u32 (newK 6), .int .u64 (newK 7), .int .u64 (newK 8)]) ∧ Below w.heap.size w w' := by
  go_enter Tryd.func12, Tryd.ntmps12
  go_wp2
  refine bodyPost_ret (v := .agg #[.int .u32 (newK 0), .int .u32 (newK 1), .int .u32 (newK 2), .int .u32 (newK 3), .int .u32 (newK 4), .int .u32 (newK 5), .int .u32 (newK 6), .int .u64 (newK 7), .int .u64 (newK 8)]) (by simp [results, Tryd.results12, go_sem, newK]) rfl ?_
  exact ⟨rfl, (Below.refl _ _).alloc (Nat.le_refl _) _⟩

set_option maxHeartbeats 1600000 in
theorem of16_any (K : Nat → Int) (w : World) :
    Calls Tryd.prog 9 #[.agg #[.int .u32 (K 0), .int .u32 (K 1), .int .u32 (K 2), .int .u32 (K 3), .int .u32 (K 4), .int .u32 (K 5), .int .u32 (K 6), .int .u64 (K 7), .int .u64 (K 8)]] w fun e w' => e = .returned (.agg #[.int .u32 (K 0), .int .u32 (K 1), .int .u32 (K 2), .int .u32 (K 3), .int .u32 (K 4), .int .u32 (K 5), .int .u32 (K 6), .int .u64 (K 7), .int .u64 (K 8)]) ∧ Below w.heap.size w w' := by
  go_enter Tryd.func9, Tryd.ntmps9
  go_wp2
  refine bodyPost_ret (v := .agg #[.int .u32 (K 0), .int .u32 (K 1), .int .u32 (K 2), .int .u32 (K 3), .int .u32 (K 4), .int .u32 (K 5), .int .u32 (K 6), .int .u64 (K 7), .int .u64 (K 8)]) (by simp [results, Tryd.results9, go_sem]) rfl ?_
  exact ⟨rfl, ((Below.refl _ _).alloc (Nat.le_refl _) _).alloc (by simp) _⟩

set_option maxHeartbeats 1600000 in
theorem in16_any (E : Nat → Int) (w : World) :
    Calls Tryd.prog 10 #[.agg #[.int .u64 (E 0), .int .u64 (E 1), .int .u64 (E 2), .int .u32 (E 3)]] w fun e w' => e = .returned (.agg #[.int .u64 (E 0), .int .u64 (E 1), .int .u64 (E 2), .int .u32 (E 3)]) ∧ Below w.heap.size w w' := by
  go_enter Tryd.func10, Tryd.ntmps10
  go_wp2
  refine bodyPost_ret (v := .agg #[.int .u64 (E 0), .int .u64 (E 1), .int .u64 (E 2), .int .u32 (E 3)]) (by simp [results, Tryd.results10, go_sem]) rfl ?_
  exact ⟨rfl, ((Below.refl _ _).alloc (Nat.le_refl _) _).alloc (by simp) _⟩

set_option maxHeartbeats 1600000 in
theorem awake16_any (w : World) (ht : RegTab w) :
    Calls Tryd.prog 7 #[] w fun e w' => e = .returned (.bool true) ∧ Below w.heap.size w w' := by
  have HR0 : Hid (∀ W : World, RegTab W → Calls Tryd.prog 5 #[.agg #[.int .u32 6144, .int .u32 0, .int .u32 0, .int .u32 0, .int .u32 0, .int .u32 0, .int .u32 0, .int .u64 0, .int .u64 0], .int .i64 768, .agg #[.int .u64 0, .int .u64 0, .int .u64 0, .int .u32 0]] W fun e w' => e = .returned (.tuple #[.int .u32 6144, .int .i64 0]) ∧ Below W.heap.size W w') :=
    fun W hT => cread_kept newK zeroK 0 0 W (by decide) rfl hT
  have HR1 : Hid (∀ W : World, RegTab W → Calls Tryd.prog 5 #[.agg #[.int .u32 6144, .int .u32 0, .int .u32 0, .int .u32 0, .int .u32 0, .int .u32 0, .int .u32 0, .int .u64 0, .int .u64 0], .int .i64 769, .agg #[.int .u64 0, .int .u64 0, .int .u64 0, .int .u32 0]] W fun e w' => e = .returned (.tuple #[.int .u32 1073746176, .int .i64 0]) ∧ Below W.heap.size W w') :=
    fun W hT => cread_fixed newK zeroK 1 W (by decide) rfl (by omega) hT
  have HT := Lib.hid ht
  clear ht
  go_enter Tryd.func7, Tryd.ntmps7
  go_wp2_with fail
  refine (cnew_any w).mono ?_
  simp only [newK]
  rintro e w1 ⟨rfl, hb1⟩
  have hb2 : Below w.heap.size w (w1.alloc (.cells #[.int .u32 6144, .int .u32 0, .int .u32 0, .int .u32 0, .int .u32 0, .int .u32 0, .int .u32 0, .int .u64 0, .int .u64 0] 27)) := hb1.alloc hb1.size _
  have hf : (w1.alloc (.cells #[.int .u32 6144, .int .u32 0, .int .u32 0, .int .u32 0, .int .u32 0, .int .u32 0, .int .u32 0, .int .u64 0, .int .u64 0] 27)).heap[w1.heap.size]? = some (.cells #[.int .u32 (newK 0), .int .u32 (newK 1), .int .u32 (newK 2), .int .u32 (newK 3), .int .u32 (newK 4), .int .u32 (newK 5), .int .u32 (newK 6), .int .u64 (newK 7), .int .u64 (newK 8)] 27 (0, 0)) := heap_alloc_new _ _
  obtain ⟨U, hU⟩ : ∃ U, U = w1.alloc (.cells #[.int .u32 6144, .int .u32 0, .int .u32 0, .int .u32 0, .int .u32 0, .int .u32 0, .int .u32 0, .int .u64 0, .int .u64 0] 27) := ⟨_, rfl⟩
  rw [← hU] at hb2 hf
  have HU := Lib.hid hU
  have HB2 := Lib.hid hb2
  have HF2 := Lib.hid hf
  clear hb1 hb2 hf hU
  go_wp2_with fail
  rw [← HU.out]
  refine (HR0.out U (HT.out.on HB2.out)).mono ?_
  rintro e w3 ⟨rfl, hb3⟩
  have hf3 := heap_on HF2.out hb3
  have HB3 := Lib.hid (HB2.out.trans (hb3.mono HB2.out.size))
  obtain ⟨⟨q0, q1, q2, q3, q4, q5, q6, q7, q8⟩, -⟩ := nine_cells hf3
  simp only [newK] at q0 q1 q2 q3 q4 q5 q6 q7 q8
  clear hb3 hf3
  go_wp2_with fail
  refine (HR1.out w3 (HT.out.on HB3.out)).mono ?_
  rintro e w4 ⟨rfl, hb4⟩
  have HB4 := Lib.hid (HB3.out.trans (hb4.mono HB3.out.size))
  clear hb4
  go_wp2
  go_ret
  exact ⟨rfl, HB4.out⟩
end Go.Proofs.YtibhlbggnkobeaaDoor
