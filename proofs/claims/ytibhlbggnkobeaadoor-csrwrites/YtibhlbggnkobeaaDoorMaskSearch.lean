/- Layer 9: mask.search, whatever closure it is handed. -/
import Derived.Test.YtibhlbggnkobeaaDoorMaskGo
namespace Go.Proofs.YtibhlbggnkobeaaDoor
open Go.RowKit
set_option linter.unusedVariables false

theorem bcell9 {W w1 : World} (hb : Below W.heap.size W w1) : (∀ b o, b < W.heap.size → w1.cell? ⟨b, o, none⟩ = W.cell? ⟨b, o, none⟩) ∧ (∀ b o, b < W.heap.size → w1.frozen? ⟨b, o, none⟩ = W.frozen? ⟨b, o, none⟩) :=
  ⟨fun b o h => hb.cell (p := ⟨b, o, none⟩) h, fun b o h => hb.frozen (p := ⟨b, o, none⟩) h⟩

/-- A function with a body of its own is entered. -/
theorem enters {P : Program} {f : FuncId} {fn : Func} {c : Code} (hf : P.funcs[f]? = some fn) (hname : (fn.name == "runtime.NumGoroutine") = false) (hb : fn.body = some c) (args : Array Value) (w : World) :
    (callFunc f args).run P w = .ok (.enter f args) w := by
  have h1 : fn.name ≠ "runtime.NumGoroutine" := by simpa using hname
  simp [callFunc, hf, h1, hb]

/-- What a closure that looks for a register answers, place by place. -/
def Looks (w : World) (N : Nat) (v : Value) (p : Nat → Bool) : Prop := (∀ args W, (callFunc N args).run Tryd.prog W = .ok (.enter N args) W) ∧ ∀ W, Below w.heap.size w W → ∀ j, j < 23 →
  Calls Tryd.prog N #[.agg #[.int .i64 (mnum j), .string (mname j), .int .u32 (mkept j), .int .u32 (mfix j)], v] W fun e w' => e = .returned (.bool (p j)) ∧ Below W.heap.size W w'

/-- The four cells of a fresh register, behind what makes memory alone. -/
theorem fresh4 (w wr : World) (v0 v1 v2 v3 : Value) (hb : Below (w.alloc (.cells #[v0, v1, v2, v3] 66)).heap.size (w.alloc (.cells #[v0, v1, v2, v3] 66)) wr) :
    wr.heap[w.heap.size]? = some (.cells #[v0, v1, v2, v3] 66 (0, 0)) := by
  rw [hb.block w.heap.size (by simp)]
  show (w.heap.push _)[w.heap.size]? = _
  simp

/-- A block of four cells, read and free to be written. -/
theorem four_cells {w : World} {B : Nat} {a b c d : Value} {t : TypeId} (h : w.heap[B]? = some (.cells #[a, b, c, d] t (0, 0))) :
    (w.cell? ⟨B, 0, none⟩ = some a ∧ w.cell? ⟨B, 1, none⟩ = some b ∧ w.cell? ⟨B, 2, none⟩ = some c ∧ w.cell? ⟨B, 3, none⟩ = some d) ∧
    (w.frozen? ⟨B, 0, none⟩ = false ∧ w.frozen? ⟨B, 1, none⟩ = false ∧ w.frozen? ⟨B, 2, none⟩ = false ∧ w.frozen? ⟨B, 3, none⟩ = false) := by
  simp [World.cell?, World.frozen?, h]

set_option maxHeartbeats 1000000 in
theorem search_yes (k N : Nat) (v : Value) (p : Nat → Bool) (w : World) (hk : k < 23) (hy : p k = true) (hn : ∀ j, j < k → p j = false) (hl : Looks w N v p) (ht : RegTab w) :
    Calls Tryd.prog 27 #[.func (.func N) #[] #[v]] w fun e w' => e = .returned (.tuple #[.agg #[.int .i64 (mnum k), .string (mname k), .int .u32 (mkept k), .int .u32 (mfix k)], .int .i64 0]) ∧ Below w.heap.size w w' := by
  obtain ⟨hen, hl⟩ := hl
  have HL : Hid (∀ W, Below w.heap.size w W → ∀ j, j < 23 → Calls Tryd.prog N #[.agg #[.int .i64 (mnum j), .string (mname j), .int .u32 (mkept j), .int .u32 (mfix j)], v] W fun e w' => e = .returned (.bool (p j)) ∧ Below W.heap.size W w') := hl
  have HT : Hid (RegTab w) := ht
  have HN : Hid (∀ j, j < k → p j = false) := hn
  have HY : Hid (p k = true) := hy
  clear hl ht hn hy
  have hW0 : Below w.heap.size w (w.alloc (.cells #[.int .i64 0, .string ⟨#[]⟩, .int .u32 0, .int .u32 0] 66)) := (Below.refl _ _).alloc (Nat.le_refl _) _
  have HF : Hid (∀ wr, Below (w.alloc (.cells #[.int .i64 0, .string ⟨#[]⟩, .int .u32 0, .int .u32 0] 66)).heap.size (w.alloc (.cells #[.int .i64 0, .string ⟨#[]⟩, .int .u32 0, .int .u32 0] 66)) wr → wr.heap[w.heap.size]? = some (.cells #[.int .i64 0, .string ⟨#[]⟩, .int .u32 0, .int .u32 0] 66 (0, 0))) := fun wr => fresh4 w wr _ _ _ _
  have hsz : (w.alloc (.cells #[.int .i64 0, .string ⟨#[]⟩, .int .u32 0, .int .u32 0] 66)).heap.size = w.heap.size + 1 := by simp
  go_enter Tryd.func27, Tryd.ntmps27
  go_wp2
  generalize w.alloc (.cells #[.int .i64 0, .string ⟨#[]⟩, .int .u32 0, .int .u32 0] 66) = W1 at *
  have HZ : Hid (W1.heap.size = w.heap.size + 1) := hsz
  have HW : Hid (Below w.heap.size w W1) := hW0
  clear hW0 hsz
  go_loopw [5] (fun i wr => ∃ j : Nat, j ≤ k ∧ i = .int .i64 j ∧ Below W1.heap.size W1 wr) (fun i _ => k - (intOf i).toNat)
  case atStart => exact ⟨0, Nat.zero_le _, rfl, Below.refl _ _⟩
  case round =>
    obtain ⟨j, hj, rfl, hb⟩ := hrel
    have hwr : Below w.heap.size w wr := HW.out.trans (hb.mono HW.out.size)
    obtain ⟨c0, c1, c2, c3⟩ := HT.out.on hwr j (by omega)
    have HB : Hid (Below W1.heap.size W1 wr) := hb
    have HWR : Hid (Below w.heap.size w wr) := hwr
    clear hb hwr
    by_cases hlt : j < k
    · have hp := HN.out j hlt
      go_wp2_with fail
      refine (HL.out _ HWR.out j (by omega)).mono ?_
      rw [hp]
      rintro e w2 ⟨rfl, hb2⟩
      have HB2 : Hid (Below W1.heap.size W1 w2) := HB.out.trans (hb2.mono HB.out.size)
      clear hb2
      go_wp2
      go_roundw
      case rel => exact ⟨j + 1, by omega, by go_num, HB2.out⟩
      case measure => simp [intOf]; omega
    · obtain rfl : j = k := by omega
      have hp := HY.out
      go_wp2_with fail
      refine (HL.out _ HWR.out j (by omega)).mono ?_
      rw [hp]
      rintro e w2 ⟨rfl, hb2⟩
      obtain ⟨d0, d1, d2, d3⟩ := RegAt.on ⟨c0, c1, c2, c3⟩ hb2
      have HB2 : Hid (Below W1.heap.size W1 w2) := HB.out.trans (hb2.mono HB.out.size)
      obtain ⟨⟨g0, g1, g2, g3⟩, z0, z1, z2, z3⟩ := four_cells (HF.out w2 HB2.out)
      clear hb2 c0 c1 c2 c3
      have HB3 : Hid (Below w.heap.size w w2) := HW.out.trans (HB2.out.mono HW.out.size)
      go_wp2
      refine bodyPost_ret (v := .tuple #[.agg #[.int .i64 (mnum j), .string (mname j), .int .u32 (mkept j), .int .u32 (mfix j)], .int .i64 0]) (by simp [results, Tryd.results27, go_sem, g0, g1, g2, g3]) rfl ⟨rfl, ?_⟩
      exact (((HB3.out.setCell (by simp) _).setCell (by simp) _).setCell (by simp) _).setCell (by simp) _

set_option maxHeartbeats 1000000 in
theorem search_no (N : Nat) (v : Value) (p : Nat → Bool) (w : World) (hn : ∀ j, j < 23 → p j = false) (hl : Looks w N v p) (ht : RegTab w) :
    Calls Tryd.prog 27 #[.func (.func N) #[] #[v]] w fun e w' => e = .returned (.tuple #[.agg #[.int .i64 0, .string ⟨#[]⟩, .int .u32 0, .int .u32 0], .int .i64 8]) ∧ Below w.heap.size w w' := by
  obtain ⟨hen, hl⟩ := hl
  have HL : Hid (∀ W, Below w.heap.size w W → ∀ j, j < 23 → Calls Tryd.prog N #[.agg #[.int .i64 (mnum j), .string (mname j), .int .u32 (mkept j), .int .u32 (mfix j)], v] W fun e w' => e = .returned (.bool (p j)) ∧ Below W.heap.size W w') := hl
  have HT : Hid (RegTab w) := ht
  have HN : Hid (∀ j, j < 23 → p j = false) := hn
  clear hl ht hn
  have hW0 : Below w.heap.size w (w.alloc (.cells #[.int .i64 0, .string ⟨#[]⟩, .int .u32 0, .int .u32 0] 66)) := (Below.refl _ _).alloc (Nat.le_refl _) _
  have HF : Hid (∀ wr, Below (w.alloc (.cells #[.int .i64 0, .string ⟨#[]⟩, .int .u32 0, .int .u32 0] 66)).heap.size (w.alloc (.cells #[.int .i64 0, .string ⟨#[]⟩, .int .u32 0, .int .u32 0] 66)) wr → wr.heap[w.heap.size]? = some (.cells #[.int .i64 0, .string ⟨#[]⟩, .int .u32 0, .int .u32 0] 66 (0, 0))) := fun wr => fresh4 w wr _ _ _ _
  go_enter Tryd.func27, Tryd.ntmps27
  go_wp2
  generalize w.alloc (.cells #[.int .i64 0, .string ⟨#[]⟩, .int .u32 0, .int .u32 0] 66) = W1 at *
  have HW : Hid (Below w.heap.size w W1) := hW0
  clear hW0
  go_loopw [5] (fun i wr => ∃ j : Nat, j ≤ 23 ∧ i = .int .i64 j ∧ Below W1.heap.size W1 wr) (fun i _ => 23 - (intOf i).toNat)
  case atStart => exact ⟨0, Nat.zero_le _, rfl, Below.refl _ _⟩
  case round =>
    obtain ⟨j, hj, rfl, hb⟩ := hrel
    have hwr : Below w.heap.size w wr := HW.out.trans (hb.mono HW.out.size)
    have HB : Hid (Below W1.heap.size W1 wr) := hb
    have HWR : Hid (Below w.heap.size w wr) := hwr
    clear hb hwr
    by_cases hlt : j < 23
    · have hp := HN.out j hlt
      obtain ⟨c0, c1, c2, c3⟩ := HT.out.on HWR.out j hlt
      go_wp2_with fail
      refine (HL.out _ HWR.out j hlt).mono ?_
      rw [hp]
      rintro e w2 ⟨rfl, hb2⟩
      have HB2 : Hid (Below W1.heap.size W1 w2) := HB.out.trans (hb2.mono HB.out.size)
      clear hb2
      go_wp2
      go_roundw
      case rel => exact ⟨j + 1, by omega, by go_num, HB2.out⟩
      case measure => simp [intOf]; omega
    · obtain rfl : j = 23 := by omega
      obtain ⟨⟨g0, g1, g2, g3⟩, z0, z1, z2, z3⟩ := four_cells (HF.out wr HB.out)
      go_wp2
      refine bodyPost_ret (v := .tuple #[.agg #[.int .i64 0, .string ⟨#[]⟩, .int .u32 0, .int .u32 0], .int .i64 8]) (by simp [results, Tryd.results27, go_sem, g0, g1, g2, g3]) rfl ⟨rfl, ?_⟩
      exact (((HWR.out.setCell (by simp) _).setCell (by simp) _).setCell (by simp) _).setCell (by simp) _

/-- The closure of Find looks for a number, that of Number for a name. -/
theorem looks_num (c : Int) (B : Nat) (w : World) (hc : w.cell? ⟨B, 0, none⟩ = some (.int .i64 c)) : Looks w 28 (.pointer (some ⟨B, 0, none⟩)) fun j => mnum j == c :=
  ⟨enters Tryd.func28 (by kernel_rfl) (by rfl), fun W hb j _ => fclo_any _ _ _ c _ _ B W (mcell_on hb hc) rfl⟩
end Go.Proofs.YtibhlbggnkobeaaDoor
