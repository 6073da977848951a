/- Layer 2's tables, and what its small functions do: isOp, Form, Name, Op. -/
import Derived.Test.YtakomdopeadcjaaDoorBase
import Derived.Test.YtakomdopeadcjaaDoorLaid
namespace Go.Proofs.YtakomdopeadcjaaDoor
open Go.RowKit
set_option linter.unusedVariables false

def formL : List Int := [0, 1, 1, 2, 3, 4, 4, 4, 4, 4, 4, 3, 3, 3, 3, 3, 5, 5, 5, 3, 3, 3, 3, 3, 3, 7, 7, 7, 6, 6, 6, 6, 6, 6, 6, 6, 6, 6, 3, 3, 0, 0, 8, 8, 8, 9, 9, 9, 0, 0, 6, 6, 6, 6, 6, 6, 6, 6]
def nameL : List (List UInt8) := [[105, 108, 108, 101, 103, 97, 108],
  [108, 117, 105],
  [97, 117, 105, 112, 99],
  [106, 97, 108],
  [106, 97, 108, 114],
  [98, 101, 113],
  [98, 110, 101],
  [98, 108, 116],
  [98, 103, 101],
  [98, 108, 116, 117],
  [98, 103, 101, 117],
  [108, 98],
  [108, 104],
  [108, 119],
  [108, 98, 117],
  [108, 104, 117],
  [115, 98],
  [115, 104],
  [115, 119],
  [97, 100, 100, 105],
  [115, 108, 116, 105],
  [115, 108, 116, 105, 117],
  [120, 111, 114, 105],
  [111, 114, 105],
  [97, 110, 100, 105],
  [115, 108, 108, 105],
  [115, 114, 108, 105],
  [115, 114, 97, 105],
  [97, 100, 100],
  [115, 117, 98],
  [115, 108, 108],
  [115, 108, 116],
  [115, 108, 116, 117],
  [120, 111, 114],
  [115, 114, 108],
  [115, 114, 97],
  [111, 114],
  [97, 110, 100],
  [102, 101, 110, 99, 101],
  [102, 101, 110, 99, 101, 46, 105],
  [101, 99, 97, 108, 108],
  [101, 98, 114, 101, 97, 107],
  [99, 115, 114, 114, 119],
  [99, 115, 114, 114, 115],
  [99, 115, 114, 114, 99],
  [99, 115, 114, 114, 119, 105],
  [99, 115, 114, 114, 115, 105],
  [99, 115, 114, 114, 99, 105],
  [109, 114, 101, 116],
  [119, 102, 105],
  [109, 117, 108],
  [109, 117, 108, 104],
  [109, 117, 108, 104, 115, 117],
  [109, 117, 108, 104, 117],
  [100, 105, 118],
  [100, 105, 118, 117],
  [114, 101, 109],
  [114, 101, 109, 117]]
def formZ (k : Nat) : Int := formL.getD k 0
def nameS (k : Nat) : ByteArray := ⟨(nameL.getD k []).toArray⟩

def FormTab (w : World) : Prop := ∀ k, k < 58 → w.cell? ⟨0, k, none⟩ = some (.int .i64 (formZ k))
theorem formTab_of_laid {l : List (String × DataW Unit)} {W : World} (h : laidMetH Tryd.prog l W) (hp : (l.all fun x => x.2.handleName?.isNone) = true) (hm : ("mimesis/inst.forms", Lib.tabData .i64 formL) ∈ l) : FormTab W := by
  rw [MakeChecks.laidMetH_plain _ _ _ hp] at h
  obtain ⟨ps, hv, _⟩ := h
  obtain ⟨g, t, cs, fuel, p, h1, h2, h3, h4⟩ := laid_mem hv hm
  obtain rfl : t = 79 := by
    obtain rfl := Option.some.inj ((show Tryd.prog.globalNamed "mimesis/inst.forms" = some 0 by kernel_rfl).symm.trans h1)
    exact Option.some.inj (h2.symm.trans (show (Tryd.prog.globals[0]?).map (·.type) = some 79 by kernel_rfl))
  have hcs := Lib.cells_of_tab Tryd.underlying79 Tryd.underlying3 (by kernel_rfl) (by kernel_rfl) h4
  obtain rfl := Option.some.inj ((show Tryd.prog.globalNamed "mimesis/inst.forms" = some 0 by kernel_rfl).symm.trans h1)
  intro k hk
  rw [World.var?_cell h1 h3 k, ← Array.getElem?_toList, hcs]
  have : k < formL.length := hk
  simp [formZ, List.getD, this]

def NameTab (w : World) : Prop := ∀ k, k < 58 → w.cell? ⟨1, k, none⟩ = some (.string (nameS k))
theorem nameTab_of_laid {l : List (String × DataW Unit)} {W : World} (h : laidMetH Tryd.prog l W) (hp : (l.all fun x => x.2.handleName?.isNone) = true) (hm : ("mimesis/inst.names", strData nameL) ∈ l) : NameTab W := by
  rw [MakeChecks.laidMetH_plain _ _ _ hp] at h
  obtain ⟨ps, hv, _⟩ := h
  obtain ⟨g, t, cs, fuel, p, h1, h2, h3, h4⟩ := laid_mem hv hm
  obtain rfl : t = 81 := by
    obtain rfl := Option.some.inj ((show Tryd.prog.globalNamed "mimesis/inst.names" = some 1 by kernel_rfl).symm.trans h1)
    exact Option.some.inj (h2.symm.trans (show (Tryd.prog.globals[1]?).map (·.type) = some 81 by kernel_rfl))
  have hcs := cells_of_strs Tryd.underlying81 Tryd.underlying9 (by kernel_rfl) (by kernel_rfl) h4
  obtain rfl := Option.some.inj ((show Tryd.prog.globalNamed "mimesis/inst.names" = some 1 by kernel_rfl).symm.trans h1)
  intro k hk
  rw [World.var?_cell h1 h3 k, ← Array.getElem?_toList, hcs]
  have : k < nameL.length := hk
  simp [nameS, List.getD, this]

theorem lt_of_cell {w : World} {b o : Nat} {p : Option Nat} {v : Value} (h : w.cell? ⟨b, o, p⟩ = some v) : b < w.heap.size := by
  refine Nat.lt_of_not_le fun hn => ?_
  simp [World.cell?, hn] at h

theorem FormTab.below {w w' : World} (h : FormTab w) (hb : Below w.heap.size w w') : FormTab w' := fun k hk => by
  rw [hb.cell (p := ⟨0, k, none⟩) (lt_of_cell (h k hk))]; exact h k hk

theorem NameTab.below {w w' : World} (h : NameTab w) (hb : Below w.heap.size w w') : NameTab w' := fun k hk => by
  rw [hb.cell (p := ⟨1, k, none⟩) (lt_of_cell (h k hk))]; exact h k hk

def opB (n : Int) : Bool := decide (0 ≤ n ∧ n < 58)
theorem opB_t {n : Int} (h : 0 ≤ n ∧ n < 58) : opB n = true := by simpa [opB] using h
theorem opB_f {n : Int} (h : ¬ (0 ≤ n ∧ n < 58)) : opB n = false := by simpa [opB] using h
theorem opB_yes {n : Int} (h : opB n = true) : 0 ≤ n ∧ n < 58 := by simpa [opB] using h
theorem opB_no {n : Int} (h : opB n = false) : ¬ (0 ≤ n ∧ n < 58) := by simpa [opB] using h

set_option maxHeartbeats 400000 in
theorem isOp_any (n : Int) (w : World) :
    Calls Tryd.prog 57 #[.int .i64 n] w fun e w' => e = .returned (.bool (opB n)) ∧ w' = w := by
  by_cases h0 : 0 ≤ n
  · by_cases h1 : n < 58
    all_goals
      go_enter Tryd.func57, Tryd.ntmps57
      go_wp2
      go_ret
      refine ⟨?_, rfl⟩; first | (refine ret_bool (opB_t ?_); omega) | (refine ret_bool (opB_f ?_); omega)
  · go_enter Tryd.func57, Tryd.ntmps57
    go_wp2
    go_ret
    refine ⟨?_, rfl⟩; first | (refine ret_bool (opB_t ?_); omega) | (refine ret_bool (opB_f ?_); omega)

set_option maxHeartbeats 400000 in
theorem form_no (n : Int) (w : World) (h : opB n = false) :
    Calls Tryd.prog 33 #[.int .i64 n] w fun e w' => e = .returned (.tuple #[.int .i64 0, .int .i64 9]) ∧ w' = w := by
  go_enter Tryd.func33, Tryd.ntmps33
  go_wp2_with (go_at_call 57; refine (isOp_any _ _).mono ?_; rintro e w' ⟨rfl, rfl⟩)
  go_ret2
  exact ⟨rfl, rfl⟩

set_option maxHeartbeats 400000 in
theorem form_yes (k : Nat) (hk : k < 58) (w : World) (ht : FormTab w) :
    Calls Tryd.prog 33 #[.int .i64 k] w fun e w' => e = .returned (.tuple #[.int .i64 (formZ k), .int .i64 0]) ∧ w' = w := by
  have hb : opB k = true := opB_t (by omega)
  have hc := ht k hk
  go_enter Tryd.func33, Tryd.ntmps33
  go_wp2_with (go_at_call 57; refine (isOp_any _ _).mono ?_; rintro e w' ⟨rfl, hw⟩; have hw := hw.symm; subst hw)
  go_ret2
  exact ⟨rfl, rfl⟩

set_option maxHeartbeats 400000 in
theorem name_no (n : Int) (w : World) (h : opB n = false) :
    Calls Tryd.prog 40 #[.int .i64 n] w fun e w' => e = .returned (.tuple #[.string ⟨#[]⟩, .int .i64 9]) ∧ w' = w := by
  go_enter Tryd.func40, Tryd.ntmps40
  go_wp2_with (go_at_call 57; refine (isOp_any _ _).mono ?_; rintro e w' ⟨rfl, rfl⟩)
  go_ret2
  exact ⟨rfl, rfl⟩

set_option maxHeartbeats 400000 in
theorem name_yes (k : Nat) (hk : k < 58) (w : World) (ht : NameTab w) :
    Calls Tryd.prog 40 #[.int .i64 k] w fun e w' => e = .returned (.tuple #[.string (nameS k), .int .i64 0]) ∧ w' = w := by
  have hb : opB k = true := opB_t (by omega)
  have hc := ht k hk
  go_enter Tryd.func40, Tryd.ntmps40
  go_wp2_with (go_at_call 57; refine (isOp_any _ _).mono ?_; rintro e w' ⟨rfl, hw⟩; have hw := hw.symm; subst hw)
  go_ret2
  exact ⟨rfl, rfl⟩
end Go.Proofs.YtakomdopeadcjaaDoor
