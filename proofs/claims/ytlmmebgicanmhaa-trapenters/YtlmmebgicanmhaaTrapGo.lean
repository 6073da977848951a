/- Layer 17: put, and the document's bit; the kept registers as a block. -/
import Derived.Test.YtlmmebgicanmhaaTrapMath
import Derived.Test.YtlmmebgicanmhaaBase
import Derived.TacticsInMore
namespace Go.Proofs.Ytlmmebgicanmhaa
open Go.RowKit
set_option linter.unusedVariables false
set_option linter.unusedSimpArgs false

def IsKs (w : World) (A : Nat) (K : Nat → Int) : Prop := w.heap[A]? = some (.cells #[.int .u32 (K 0), .int .u32 (K 1), .int .u32 (K 2), .int .u32 (K 3), .int .u32 (K 4), .int .u32 (K 5), .int .u32 (K 6)] 24 (0, 0))
def KsB (K : Nat → Int) : Prop := ∀ j, j < 7 → 0 ≤ K j ∧ K j < 4294967296

theorem heap17_lt {w : World} {A : Nat} {o : Obj} (h : w.heap[A]? = some o) : A < w.heap.size := (Array.getElem?_eq_some_iff.1 h).1
theorem heap17_on {w w' : World} {A : Nat} {o : Obj} (h : w.heap[A]? = some o) (hb : Below w.heap.size w w') : w'.heap[A]? = some o := by
  rw [hb.block A (heap17_lt h)]; exact h

theorem seven_cells {w : World} {A : Nat} {K : Nat → Int} (h : IsKs w A K) :
    (w.cell? ⟨A, 0, none⟩ = some (.int .u32 (K 0)) ∧ w.cell? ⟨A, 1, none⟩ = some (.int .u32 (K 1)) ∧ w.cell? ⟨A, 2, none⟩ = some (.int .u32 (K 2)) ∧ w.cell? ⟨A, 3, none⟩ = some (.int .u32 (K 3)) ∧ w.cell? ⟨A, 4, none⟩ = some (.int .u32 (K 4)) ∧ w.cell? ⟨A, 5, none⟩ = some (.int .u32 (K 5)) ∧ w.cell? ⟨A, 6, none⟩ = some (.int .u32 (K 6))) ∧
    ∀ j, w.frozen? ⟨A, j, none⟩ = false := by
  unfold IsKs at h
  simp [World.cell?, World.frozen?, h]

theorem gput_any (w a : Int) (A : Nat) (b : Bool) (W : World) (hA : A = 3 ∨ A = 7) (h : a = ((2 ^ A : Nat) : Int)) (w0 : 0 ≤ w) (w1 : w < 4294967296) :
    Calls Try.prog 18 #[.int .u32 w, .int .u32 a, .bool b] W fun e w' => e = .returned (.int .u32 (putOf w A 1 (if b then 1 else 0))) ∧ w' = W := by
  have HO : Hid (bits .or .u32 w a = putOf w A 1 1) := by rw [h]; exact or_bit w A (by omega) w0 w1
  have HN : Hid (bits .andNot .u32 w a = putOf w A 1 0) := by rw [h]; exact andNot_bit w A (by omega) w0 w1
  clear w0 w1 h hA
  cases b with
  | true =>
    go_enter Try.func18, Try.ntmps18
    go_wp2
    go_ret
    exact ⟨ret_int HO.out, rfl⟩
  | false =>
    go_enter Try.func18, Try.ntmps18
    go_wp2
    go_ret
    exact ⟨ret_int HN.out, rfl⟩

theorem rbit17_any (x : Int) (A : Nat) (w : World) (hA : A < 32) (x0 : 0 ≤ x) (x1 : x < 4294967296) :
    Calls Try.prog 20 #[.int .u32 x, .int .i64 A] w fun e w' => e = .returned (.int .u32 (bitsOf x A 1)) ∧ Q w w' := by
  have HB : Hid (∀ W : World, Calls Try.prog 22 #[.int .u32 x, .int .i64 A, .int .i64 1] W fun e w' => e = .returned (.int .u32 (bitsOf x A 1)) ∧ Q W w') := fun W => rbits_any x A 1 W x0 x1 (by omega) (by omega) (by omega) (by omega)
  clear x0 x1 hA
  go_enter Try.func20, Try.ntmps20
  go_wp2_with fail
  refine (HB.out w).mono ?_
  rintro e w1 ⟨rfl, hq⟩
  go_wp2
  go_ret
  exact ⟨rfl, hq⟩

/-- A word; and the document's bit and Put of a single bit, whatever they are asked for. -/
def W32 (x : Int) : Prop := 0 ≤ x ∧ x < 4294967296
theorem rbit_gen (x a : Int) (w : World) (hx : W32 x) (ha : 0 ≤ a ∧ a ≤ 31) :
    Calls Try.prog 20 #[.int .u32 x, .int .i64 a] w fun e w' => e = .returned (.int .u32 (bitsOf x a 1)) ∧ Q w w' := by
  obtain ⟨A, rfl⟩ := Int.eq_ofNat_of_zero_le ha.1
  exact rbit17_any x A w (by omega) hx.1 hx.2
theorem rput_gen (x a y : Int) (w : World) (hx : W32 x) (ha : 0 ≤ a ∧ a ≤ 31) (hy : 0 ≤ y ∧ y < 2) :
    Calls Try.prog 19 #[.int .u32 x, .int .i64 a, .int .i64 1, .int .u32 y] w fun e w' => e = .returned (.int .u32 (putOf x a 1 y)) ∧ Q w w' :=
  rput_any x a 1 y w hx.1 hx.2 hy.1 (by omega) ha.1 ha.2 (by omega) (by omega)
end Go.Proofs.Ytlmmebgicanmhaa
