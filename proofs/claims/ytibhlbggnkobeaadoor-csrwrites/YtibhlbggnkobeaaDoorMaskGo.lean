/- Layer 9: the table of registers; what mask's functions answer. -/
import Derived.Test.YtibhlbggnkobeaaDoorBase
import Derived.Test.YtibhlbggnkobeaaDoorLaidRows
import Derived.Test.YtibhlbggnkobeaaDoorMaskMath
import Derived.Laws.Strings
import Derived.Deep.RegionHeld3
import Derived.Deep.RegionWith
namespace Go.Proofs.YtibhlbggnkobeaaDoor
open Go.RowKit
set_option linter.unusedVariables false

def mrows : List (List Lit) := (List.range 23).map fun k => [.int .i64 (mnum k), .string (mnameL.getD k []), .int .u32 (mkept k), .int .u32 (mfix k)]

def RegAt (w : World) (B k : Nat) : Prop := w.cell? ⟨B, k * 4, none⟩ = some (.int .i64 (mnum k)) ∧ w.cell? ⟨B, k * 4 + 1, none⟩ = some (.string (mname k)) ∧ w.cell? ⟨B, k * 4 + 2, none⟩ = some (.int .u32 (mkept k)) ∧ w.cell? ⟨B, k * 4 + 3, none⟩ = some (.int .u32 (mfix k))
def RegTab (w : World) : Prop := ∀ k, k < 23 → RegAt w 0 k

theorem regTab_of_laid {l : List (String × DataW Unit)} {W : World} (h : laidMetH Tryd.prog l W) (hp : (l.all fun x => x.2.handleName?.isNone) = true) (hm : ("mimesis/mask.registers", rowsData mrows) ∈ l) : RegTab W := by
  rw [MakeChecks.laidMetH_plain _ _ _ hp] at h
  obtain ⟨ps, hv, _⟩ := h
  obtain ⟨g, t, cs, fuel, p, h1, h2, h3, h4⟩ := laid_mem hv hm
  obtain rfl : t = 71 := by
    obtain rfl := Option.some.inj ((show Tryd.prog.globalNamed "mimesis/mask.registers" = some 0 by kernel_rfl).symm.trans h1)
    exact Option.some.inj (h2.symm.trans (show (Tryd.prog.globals[0]?).map (·.type) = some 71 by kernel_rfl))
  have hcs := cells_of_rows (m := 4) Tryd.underlying71 Tryd.underlying66 (by kernel_rfl)
    (fun j hj => by
      match j, hj with
      | 0, _ => exact ⟨_, rfl, rfl, by kernel_rfl, .inr (.inr ⟨_, Tryd.underlying3⟩)⟩
      | 1, _ => exact ⟨_, rfl, rfl, by kernel_rfl, .inr (.inl Tryd.underlying9)⟩
      | 2, _ => exact ⟨_, rfl, rfl, by kernel_rfl, .inr (.inr ⟨_, Tryd.underlying22⟩)⟩
      | 3, _ => exact ⟨_, rfl, rfl, by kernel_rfl, .inr (.inr ⟨_, Tryd.underlying22⟩)⟩) h4
  obtain rfl := Option.some.inj ((show Tryd.prog.globalNamed "mimesis/mask.registers" = some 0 by kernel_rfl).symm.trans h1)
  intro k hk
  have hr : mrows[k]? = some [.int .i64 (mnum k), .string (mnameL.getD k []), .int .u32 (mkept k), .int .u32 (mfix k)] := by
    unfold mrows
    rw [List.getElem?_map, List.getElem?_range hk]; rfl
  refine ⟨?_, ?_, ?_, ?_⟩
  · rw [World.var?_cell h1 h3, ← Array.getElem?_toList]; exact hcs k 0 _ _ hr rfl hk (by omega)
  · rw [World.var?_cell h1 h3, ← Array.getElem?_toList]; exact hcs k 1 _ _ hr rfl hk (by omega)
  · rw [World.var?_cell h1 h3, ← Array.getElem?_toList]; exact hcs k 2 _ _ hr rfl hk (by omega)
  · rw [World.var?_cell h1 h3, ← Array.getElem?_toList]; exact hcs k 3 _ _ hr rfl hk (by omega)

theorem mlt_of_cell {w : World} {b o : Nat} {p : Option Nat} {v : Value} (h : w.cell? ⟨b, o, p⟩ = some v) : b < w.heap.size := by
  refine Nat.lt_of_not_le fun hn => ?_
  simp [World.cell?, hn] at h
theorem mcell_on {W w1 : World} {b o : Nat} {p : Option Nat} {v : Value} (hb : Below W.heap.size W w1) (h : W.cell? ⟨b, o, p⟩ = some v) : w1.cell? ⟨b, o, p⟩ = some v := by
  rw [hb.cell (p := ⟨b, o, p⟩) (mlt_of_cell h)]; exact h
theorem RegAt.on {W w1 : World} {B k : Nat} (h : RegAt W B k) (hb : Below W.heap.size W w1) : RegAt w1 B k :=
  ⟨mcell_on hb h.1, mcell_on hb h.2.1, mcell_on hb h.2.2.1, mcell_on hb h.2.2.2⟩
theorem RegTab.on {w w' : World} (h : RegTab w) (hb : Below w.heap.size w w') : RegTab w' := fun k hk => (h k hk).on hb

/-- A register as a value. -/
def regV (n : Int) (s : ByteArray) (x y : Int) : Value := .agg #[.int .i64 n, .string s, .int .u32 x, .int .u32 y]

set_option maxHeartbeats 400000 in
theorem fclo_any (n x y c : Int) (s : ByteArray) (b : Bool) (B : Nat) (w : World) (hc : w.cell? ⟨B, 0, none⟩ = some (.int .i64 c)) (hb : (n == c) = b) :
    Calls Tryd.prog 28 #[.agg #[.int .i64 n, .string s, .int .u32 x, .int .u32 y], .pointer (some ⟨B, 0, none⟩)] w fun e w' => e = .returned (.bool b) ∧ Below w.heap.size w w' := by
  have hB := mlt_of_cell hc
  have hc' := mcell_on ((Below.refl w.heap.size w).alloc (Nat.le_refl _) (.cells #[.int .i64 n, .string s, .int .u32 x, .int .u32 y] 66)) hc
  subst hb
  go_enter Tryd.func28, Tryd.ntmps28
  go_wp2
  go_ret
  exact ⟨rfl, (Below.refl _ _).alloc (Nat.le_refl _) _⟩

end Go.Proofs.YtibhlbggnkobeaaDoor
