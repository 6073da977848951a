/- Layer 17: names and Name, the program's and the document's. -/
import Derived.Test.YtlmmebgicanmhaaTrapGo
namespace Go.Proofs.Ytlmmebgicanmhaa
open Go.RowKit
set_option linter.unusedVariables false
set_option linter.unusedSimpArgs false

/-- The causes and their names. -/
def causeT : Nat → Int
  | 0 => 0
  | 1 => 1
  | 2 => 2
  | 3 => 3
  | 4 => 4
  | 5 => 5
  | 6 => 6
  | 7 => 7
  | 8 => 11
  | 9 => 2147483651
  | 10 => 2147483655
  | _ => 2147483659
def nameT : Nat → ByteArray
  | 0 => ⟨#[106, 117, 109, 112]⟩
  | 1 => ⟨#[102, 101, 116, 99, 104]⟩
  | 2 => ⟨#[105, 108, 108, 101, 103, 97, 108]⟩
  | 3 => ⟨#[98, 114, 101, 97, 107]⟩
  | 4 => ⟨#[108, 111, 97, 100, 45, 111, 100, 100]⟩
  | 5 => ⟨#[108, 111, 97, 100]⟩
  | 6 => ⟨#[115, 116, 111, 114, 101, 45, 111, 100, 100]⟩
  | 7 => ⟨#[115, 116, 111, 114, 101]⟩
  | 8 => ⟨#[99, 97, 108, 108]⟩
  | 9 => ⟨#[115, 111, 102, 116]⟩
  | 10 => ⟨#[116, 105, 109, 101, 114]⟩
  | 11 => ⟨#[101, 120, 116, 101, 114, 110, 97, 108]⟩
  | _ => ⟨#[117, 110, 107, 110, 111, 119, 110]⟩

set_option maxRecDepth 100000 in
theorem names_row (w : World) : (w.alloc (.cells #[.int .u32 0, .string ⟨#[106, 117, 109, 112]⟩, .int .u32 1, .string ⟨#[102, 101, 116, 99, 104]⟩, .int .u32 2, .string ⟨#[105, 108, 108, 101, 103, 97, 108]⟩, .int .u32 3, .string ⟨#[98, 114, 101, 97, 107]⟩, .int .u32 4, .string ⟨#[108, 111, 97, 100, 45, 111, 100, 100]⟩, .int .u32 5, .string ⟨#[108, 111, 97, 100]⟩, .int .u32 6, .string ⟨#[115, 116, 111, 114, 101, 45, 111, 100, 100]⟩, .int .u32 7, .string ⟨#[115, 116, 111, 114, 101]⟩, .int .u32 11, .string ⟨#[99, 97, 108, 108]⟩, .int .u32 2147483651, .string ⟨#[115, 111, 102, 116]⟩, .int .u32 2147483655, .string ⟨#[116, 105, 109, 101, 114]⟩, .int .u32 2147483659, .string ⟨#[101, 120, 116, 101, 114, 110, 97, 108]⟩] 45)).heap[w.heap.size]? = some (.cells #[.int .u32 0, .string ⟨#[106, 117, 109, 112]⟩, .int .u32 1, .string ⟨#[102, 101, 116, 99, 104]⟩, .int .u32 2, .string ⟨#[105, 108, 108, 101, 103, 97, 108]⟩, .int .u32 3, .string ⟨#[98, 114, 101, 97, 107]⟩, .int .u32 4, .string ⟨#[108, 111, 97, 100, 45, 111, 100, 100]⟩, .int .u32 5, .string ⟨#[108, 111, 97, 100]⟩, .int .u32 6, .string ⟨#[115, 116, 111, 114, 101, 45, 111, 100, 100]⟩, .int .u32 7, .string ⟨#[115, 116, 111, 114, 101]⟩, .int .u32 11, .string ⟨#[99, 97, 108, 108]⟩, .int .u32 2147483651, .string ⟨#[115, 111, 102, 116]⟩, .int .u32 2147483655, .string ⟨#[116, 105, 109, 101, 114]⟩, .int .u32 2147483659, .string ⟨#[101, 120, 116, 101, 114, 110, 97, 108]⟩] 45 (0, 0)) := by
  show (w.heap.push _)[w.heap.size]? = _
  simp

set_option maxRecDepth 100000 in
theorem names_at {B : Nat} (w : World) (h : w.heap[B]? = some (.cells #[.int .u32 0, .string ⟨#[106, 117, 109, 112]⟩, .int .u32 1, .string ⟨#[102, 101, 116, 99, 104]⟩, .int .u32 2, .string ⟨#[105, 108, 108, 101, 103, 97, 108]⟩, .int .u32 3, .string ⟨#[98, 114, 101, 97, 107]⟩, .int .u32 4, .string ⟨#[108, 111, 97, 100, 45, 111, 100, 100]⟩, .int .u32 5, .string ⟨#[108, 111, 97, 100]⟩, .int .u32 6, .string ⟨#[115, 116, 111, 114, 101, 45, 111, 100, 100]⟩, .int .u32 7, .string ⟨#[115, 116, 111, 114, 101]⟩, .int .u32 11, .string ⟨#[99, 97, 108, 108]⟩, .int .u32 2147483651, .string ⟨#[115, 111, 102, 116]⟩, .int .u32 2147483655, .string ⟨#[116, 105, 109, 101, 114]⟩, .int .u32 2147483659, .string ⟨#[101, 120, 116, 101, 114, 110, 97, 108]⟩] 45 (0, 0))) (j : Nat) (hj : j < 12) : w.cell? ⟨B, j * 2, none⟩ = some (.int .u32 (causeT j)) ∧ w.cell? ⟨B, j * 2 + 1, none⟩ = some (.string (nameT j)) := by
  match j, hj with
  | 0, _ => exact ⟨by simp [World.cell?, h, causeT], by simp [World.cell?, h, nameT]⟩
  | 1, _ => exact ⟨by simp [World.cell?, h, causeT], by simp [World.cell?, h, nameT]⟩
  | 2, _ => exact ⟨by simp [World.cell?, h, causeT], by simp [World.cell?, h, nameT]⟩
  | 3, _ => exact ⟨by simp [World.cell?, h, causeT], by simp [World.cell?, h, nameT]⟩
  | 4, _ => exact ⟨by simp [World.cell?, h, causeT], by simp [World.cell?, h, nameT]⟩
  | 5, _ => exact ⟨by simp [World.cell?, h, causeT], by simp [World.cell?, h, nameT]⟩
  | 6, _ => exact ⟨by simp [World.cell?, h, causeT], by simp [World.cell?, h, nameT]⟩
  | 7, _ => exact ⟨by simp [World.cell?, h, causeT], by simp [World.cell?, h, nameT]⟩
  | 8, _ => exact ⟨by simp [World.cell?, h, causeT], by simp [World.cell?, h, nameT]⟩
  | 9, _ => exact ⟨by simp [World.cell?, h, causeT], by simp [World.cell?, h, nameT]⟩
  | 10, _ => exact ⟨by simp [World.cell?, h, causeT], by simp [World.cell?, h, nameT]⟩
  | 11, _ => exact ⟨by simp [World.cell?, h, causeT], by simp [World.cell?, h, nameT]⟩

set_option maxHeartbeats 1600000 in
set_option maxRecDepth 100000 in
theorem names_any (w : World) :
    Calls Try.prog 21 #[] w fun e w' => e = .returned (.slice (some ⟨w.heap.size, 0, none⟩) 12 12) ∧ (∀ j, j < 12 → w'.cell? ⟨w.heap.size, j * 2, none⟩ = some (.int .u32 (causeT j)) ∧ w'.cell? ⟨w.heap.size, j * 2 + 1, none⟩ = some (.string (nameT j))) ∧ Below w.heap.size w w' := by
  have HR := Lib.hid (names_row w)
  have HB : Hid (∀ a : Obj, Below w.heap.size w (w.alloc a)) := fun a => (Below.refl _ _).alloc (Nat.le_refl _) _
  go_enter Try.func21, Try.ntmps21
  go_wp2
  go_ret
  exact ⟨rfl, names_at _ HR.out, HB.out _⟩
end Go.Proofs.Ytlmmebgicanmhaa
