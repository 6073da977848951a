/- Layer 11: Clear, Clone. -/
import Derived.Test.YtidjabmimcajaaaFifoGo
import Derived.Test.YtidjabmimcajaaaWhole
namespace Go.Proofs.Ytidjabmimcajaaa
open Go.RowKit
set_option linter.unusedVariables false

theorem fifoZero_one : fifoZ.all (·.oneCell') = true := by kernel_rfl
theorem fifo_size : (Try.prog.info? 42).map (·.size) = some 18 := by kernel_rfl

theorem FifoC.one {cs : Array Value} {s n : Nat} {f : Nat → Int} (h : FifoC cs s n f) : cs.all (·.oneCell') = true := by
  obtain ⟨h0, h1, h2, h3, h4, h5, h6⟩ := h
  refine Array.all_eq_true_iff_forall_mem.2 fun v hv => ?_
  obtain ⟨i, hi, rfl⟩ := Array.mem_iff_getElem.1 hv
  have key : ∀ u, cs[i]? = some u → u.oneCell' = true := by
    intro u hu
    by_cases c : i < 16
    · obtain ⟨x, hx⟩ := h5 i c
      rw [hx] at hu
      have := Option.some.inj hu
      subst this; rfl
    · by_cases d : i = 16
      · subst d
        rw [h3] at hu
        have := Option.some.inj hu
        subst this; rfl
      · obtain rfl : i = 17 := by omega
        rw [h4] at hu
        have := Option.some.inj hu
        subst this; rfl
  exact key _ (Array.getElem?_eq_getElem hi)

set_option maxRecDepth 100000 in
set_option maxHeartbeats 800000 in
theorem fclear_any (B n : Nat) (f : Nat → Int) (w : World) (h : IsFifo w B n f) :
    Calls Try.prog 12 #[.pointer (some ⟨B, 0, none⟩)] w fun e w' => e = .returned (.tuple #[]) ∧ (∀ g, IsFifo w' B 0 g) ∧ Bar B w w' := by
  obtain ⟨cs, s, hB, hc⟩ := h
  have hsz : cs.size = fifoZ.size := hc.1
  clear hc
  have HZ : Hid (∀ g, IsFifo (w.setRow B fifoZ) B 0 g) := fun g => ⟨_, 0, setRow_heap _ _ _ _ _ _ hB, ⟨rfl, by decide, by decide, rfl, rfl, fun j hj => ⟨0, fifoZero_at j hj⟩, fun i hi => absurd hi (Nat.not_lt_zero i)⟩⟩
  go_enter Try.func12, Try.ntmps12
  go_wp2_with (refine wpList_store_row rfl 42 (.tmp 6) (.tmp 5) rfl B 42 cs fifoZ rfl rfl hB fifo_size hsz fifoZero_one ?_)
  go_end0
  exact ⟨rfl, HZ.out, Bar.setRow _ _ _⟩

set_option maxRecDepth 100000 in
set_option maxHeartbeats 800000 in
theorem fclone_any (B n : Nat) (f : Nat → Int) (w : World) (h : IsFifo w B n f) :
    Calls Try.prog 16 #[.pointer (some ⟨B, 0, none⟩)] w fun e w' => ∃ C, e = .returned (.pointer (some ⟨C, 0, none⟩)) ∧ w.heap.size ≤ C ∧ IsFifo w' C n f ∧ Below w.heap.size w w' := by
  obtain ⟨cs, s, hB, hc⟩ := h
  have hsz : (Try.prog.info? 42).map (·.size) = some cs.size := by rw [fifo_size, hc.1]
  have hs2 : fifoZ.size = cs.size := hc.1.symm
  have h1 := hc.one
  have HW : Hid (IsFifo ((w.alloc (.cells fifoZ 42)).setRow w.heap.size cs) w.heap.size n f ∧ Below w.heap.size w ((w.alloc (.cells fifoZ 42)).setRow w.heap.size cs)) := by
    rw [World.setRow_alloc_new]
    exact ⟨⟨cs, s, heap_alloc_new w _, hc⟩, (Below.refl _ w).alloc (Nat.le_refl _) _⟩
  clear hc
  go_enter Try.func16, Try.ntmps16
  go_wp2_with (first
    | (refine wpList_load_row rfl 42 (.tmp 7) rfl B 42 rfl cs _ hB Try.underlying42 rfl hsz ?_)
    | (refine wpList_store_row rfl 42 (.tmp 3) (.tmp 8) rfl w.heap.size 42 fifoZ cs rfl rfl (heap_alloc_new w _) hsz hs2 h1 ?_))
  go_ret
  exact ⟨w.heap.size, rfl, Nat.le_refl _, HW.out.1, HW.out.2⟩
end Go.Proofs.Ytidjabmimcajaaa
