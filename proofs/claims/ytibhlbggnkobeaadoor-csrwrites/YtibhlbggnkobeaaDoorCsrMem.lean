/- Layer 16: a file, what it is asked in and a register as blocks. -/
import Derived.Test.YtibhlbggnkobeaaDoorCsrMath
import Derived.Test.YtibhlbggnkobeaaDoorBars
import Derived.Test.YtibhlbggnkobeaaDoorMaskFind
namespace Go.Proofs.YtibhlbggnkobeaaDoor
open Go.RowKit
set_option linter.unusedVariables false

def IsFile (w : World) (A : Nat) (K : Nat → Int) : Prop := w.heap[A]? = some (.cells #[.int .u32 (K 0), .int .u32 (K 1), .int .u32 (K 2), .int .u32 (K 3), .int .u32 (K 4), .int .u32 (K 5), .int .u32 (K 6), .int .u64 (K 7), .int .u64 (K 8)] 27 (0, 0))
def IsEnv (w : World) (A : Nat) (E : Nat → Int) : Prop := w.heap[A]? = some (.cells #[.int .u64 (E 0), .int .u64 (E 1), .int .u64 (E 2), .int .u32 (E 3)] 29 (0, 0))
def IsReg (w : World) (A : Nat) (s : ByteArray) (x y : Int) (f : Bool) : Prop := w.heap[A]? = some (.cells #[.string s, .int .u32 x, .int .u32 y, .bool f] 51 (0, 0))

theorem heap_lt {w : World} {A : Nat} {o : Obj} (h : w.heap[A]? = some o) : A < w.heap.size := (Array.getElem?_eq_some_iff.1 h).1
theorem heap_on {w w' : World} {A : Nat} {o : Obj} (h : w.heap[A]? = some o) (hb : Below w.heap.size w w') : w'.heap[A]? = some o := by
  rw [hb.block A (heap_lt h)]; exact h

theorem nine_cells {w : World} {A : Nat} {K : Nat → Int} {t : TypeId} (h : w.heap[A]? = some (.cells #[.int .u32 (K 0), .int .u32 (K 1), .int .u32 (K 2), .int .u32 (K 3), .int .u32 (K 4), .int .u32 (K 5), .int .u32 (K 6), .int .u64 (K 7), .int .u64 (K 8)] t (0, 0))) :
    (w.cell? ⟨A, 0, none⟩ = some (.int .u32 (K 0)) ∧ w.cell? ⟨A, 1, none⟩ = some (.int .u32 (K 1)) ∧ w.cell? ⟨A, 2, none⟩ = some (.int .u32 (K 2)) ∧ w.cell? ⟨A, 3, none⟩ = some (.int .u32 (K 3)) ∧ w.cell? ⟨A, 4, none⟩ = some (.int .u32 (K 4)) ∧ w.cell? ⟨A, 5, none⟩ = some (.int .u32 (K 5)) ∧ w.cell? ⟨A, 6, none⟩ = some (.int .u32 (K 6)) ∧ w.cell? ⟨A, 7, none⟩ = some (.int .u64 (K 7)) ∧ w.cell? ⟨A, 8, none⟩ = some (.int .u64 (K 8))) ∧
    ∀ j, w.frozen? ⟨A, j, none⟩ = false := by
  simp [World.cell?, World.frozen?, h]
theorem kept_cell {w : World} {A : Nat} {K : Nat → Int} {t : TypeId} (h : w.heap[A]? = some (.cells #[.int .u32 (K 0), .int .u32 (K 1), .int .u32 (K 2), .int .u32 (K 3), .int .u32 (K 4), .int .u32 (K 5), .int .u32 (K 6), .int .u64 (K 7), .int .u64 (K 8)] t (0, 0))) {j : Nat} (hj : j < 7) : w.cell? ⟨A, j, none⟩ = some (.int .u32 (K j)) := by
  obtain ⟨⟨h0, h1, h2, h3, h4, h5, h6, -⟩, -⟩ := nine_cells h
  match j, hj with
  | 0, _ => exact h0 | 1, _ => exact h1 | 2, _ => exact h2 | 3, _ => exact h3 | 4, _ => exact h4 | 5, _ => exact h5 | 6, _ => exact h6
theorem env_cells {w : World} {A : Nat} {E : Nat → Int} {t : TypeId} (h : w.heap[A]? = some (.cells #[.int .u64 (E 0), .int .u64 (E 1), .int .u64 (E 2), .int .u32 (E 3)] t (0, 0))) :
    (w.cell? ⟨A, 0, none⟩ = some (.int .u64 (E 0)) ∧ w.cell? ⟨A, 1, none⟩ = some (.int .u64 (E 1)) ∧ w.cell? ⟨A, 2, none⟩ = some (.int .u64 (E 2)) ∧ w.cell? ⟨A, 3, none⟩ = some (.int .u32 (E 3))) ∧
    ∀ j, w.frozen? ⟨A, j, none⟩ = false := by
  simp [World.cell?, World.frozen?, h]
theorem reg_cells {w : World} {A : Nat} {s : ByteArray} {x y : Int} {f : Bool} {t : TypeId} (h : w.heap[A]? = some (.cells #[.string s, .int .u32 x, .int .u32 y, .bool f] t (0, 0))) :
    w.cell? ⟨A, 0, none⟩ = some (.string s) ∧ w.cell? ⟨A, 1, none⟩ = some (.int .u32 x) ∧ w.cell? ⟨A, 2, none⟩ = some (.int .u32 y) ∧ w.cell? ⟨A, 3, none⟩ = some (.bool f) := by
  simp [World.cell?, h]

theorem low16_any (n : Int) (w : World) :
    Calls Tryd.prog 18 #[.int .u64 n] w fun e w' => e = .returned (.int .u32 (n % 4294967296)) ∧ w' = w := by
  go_enter Tryd.func18, Tryd.ntmps18
  go_wp2
  go_ret
  exact ⟨ret_int (by simp), rfl⟩

theorem high16_any (n : Int) (w : World) (n0 : 0 ≤ n) (n1 : n < 18446744073709551616) :
    Calls Tryd.prog 19 #[.int .u64 n] w fun e w' => e = .returned (.int .u32 (n / 4294967296)) ∧ w' = w := by
  have HN : Hid (0 ≤ n ∧ n < 18446744073709551616) := ⟨n0, n1⟩
  clear n0 n1
  go_enter Tryd.func19, Tryd.ntmps19
  go_wp2
  go_ret
  obtain ⟨n0, n1⟩ := HN.out
  exact ⟨ret_int (by omega), rfl⟩

theorem rlow16_any (n : Int) (w : World) (n0 : 0 ≤ n) :
    Calls Tryd.prog 21 #[.int .u64 n] w fun e w' => e = .returned (.int .u32 (n % 4294967296)) ∧ w' = w := by
  go_enter Tryd.func21, Tryd.ntmps21
  go_wp2
  go_ret
  exact ⟨ret_int (by omega), rfl⟩

theorem rhigh16_any (n : Int) (w : World) (n0 : 0 ≤ n) (n1 : n < 18446744073709551616) :
    Calls Tryd.prog 22 #[.int .u64 n] w fun e w' => e = .returned (.int .u32 (n / 4294967296)) ∧ w' = w := by
  have HN : Hid (0 ≤ n ∧ n < 18446744073709551616) := ⟨n0, n1⟩
  clear n1
  go_enter Tryd.func22, Tryd.ntmps22
  go_wp2
  go_ret
  obtain ⟨n0, n1⟩ := HN.out
  exact ⟨ret_int (by rw [IntKind.wrap_u64, Int.tdiv_eq_ediv_of_nonneg n0]; omega), rfl⟩

set_option maxHeartbeats 800000 in
theorem put16_low (B : Nat) (k o x : Int) (w : World) (x0 : 0 ≤ x) (x1 : x < 4294967296) (hx : w.cell? ⟨B, 0, none⟩ = some (.int .u32 x)) :
    Calls Tryd.prog 25 #[.int .u64 k, .int .u64 o, .int .i64 0, .pointer (some ⟨B, 0, none⟩)] w fun e w' => e = .returned (.int .u64 (offZ (lowP (nowZ o k) x) (k + 1))) ∧ Q w w' := by
  have HV : Hid (bits .or .u64 (bits .andNot .u64 (nowZ o k) 4294967295) x = lowP (nowZ o k) x) := put_low (nowZ_lt o k).1 (nowZ_lt o k).2 x0 x1
  have hn : IntKind.u64.wrap (k + o) = nowZ o k := by rw [IntKind.wrap_u64]; rfl
  go_enter Tryd.func25, Tryd.ntmps25
  go_wp2_with fail
  go_quiet (fail)
  go_wp2
  go_ret
  refine ⟨ret_int ?_, _, rfl⟩
  rw [HV.out, IntKind.wrap_u64, IntKind.wrap_u64]
  exact off_next _ _

set_option maxHeartbeats 800000 in
theorem put16_high (B : Nat) (k o x : Int) (w : World) (x0 : 0 ≤ x) (x1 : x < 4294967296) (hx : w.cell? ⟨B, 0, none⟩ = some (.int .u32 x)) :
    Calls Tryd.prog 25 #[.int .u64 k, .int .u64 o, .int .i64 32, .pointer (some ⟨B, 0, none⟩)] w fun e w' => e = .returned (.int .u64 (offZ (highP (nowZ o k) x) (k + 1))) ∧ Q w w' := by
  have HV : Hid (bits .or .u64 (bits .andNot .u64 (nowZ o k) 18446744069414584320) (x * 4294967296) = highP (nowZ o k) x) := put_high (nowZ_lt o k).1 (nowZ_lt o k).2 x0 x1
  have hn : IntKind.u64.wrap (k + o) = nowZ o k := by rw [IntKind.wrap_u64]; rfl
  go_enter Tryd.func25, Tryd.ntmps25
  go_wp2_with fail
  go_quiet (fail)
  go_wp2
  go_ret
  refine ⟨ret_int ?_, _, rfl⟩
  rw [HV.out, IntKind.wrap_u64, IntKind.wrap_u64]
  exact off_next _ _
end Go.Proofs.YtibhlbggnkobeaaDoor
