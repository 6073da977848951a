/- Layer 9: the document's own Numbers, Names, Kept, Fixed, Place, Fast, Legal, Writes. -/
import Derived.Test.YtibhlbggnkobeaaDoorMaskGo
import Derived.Lib.Hide
namespace Go.Proofs.YtibhlbggnkobeaaDoor
open Go.RowKit
set_option linter.unusedVariables false

def mnumC : Array Value := ((List.range 23).map fun k => Value.int .i64 (mnum k)).toArray
def mnameC : Array Value := ((List.range 23).map fun k => Value.string (mname k)).toArray
def mkeptC : Array Value := ((List.range 23).map fun k => Value.int .u32 (mkept k)).toArray
def mfixC : Array Value := ((List.range 23).map fun k => Value.int .u32 (mfix k)).toArray
theorem mnumC_at (k : Nat) (hk : k < 23) : mnumC[k]? = some (.int .i64 (mnum k)) := by
  unfold mnumC; rw [List.getElem?_toArray, List.getElem?_map, List.getElem?_range hk]; rfl
theorem mnameC_at (k : Nat) (hk : k < 23) : mnameC[k]? = some (.string (mname k)) := by
  unfold mnameC; rw [List.getElem?_toArray, List.getElem?_map, List.getElem?_range hk]; rfl
theorem mkeptC_at (k : Nat) (hk : k < 23) : mkeptC[k]? = some (.int .u32 (mkept k)) := by
  unfold mkeptC; rw [List.getElem?_toArray, List.getElem?_map, List.getElem?_range hk]; rfl
theorem mfixC_at (k : Nat) (hk : k < 23) : mfixC[k]? = some (.int .u32 (mfix k)) := by
  unfold mfixC; rw [List.getElem?_toArray, List.getElem?_map, List.getElem?_range hk]; rfl

set_option maxHeartbeats 4000000 in
set_option maxRecDepth 100000 in
theorem rnumbers0 (w : World) :
    Calls Tryd.prog 20 #[] w fun e w' => e = .returned (.slice (some ⟨w.heap.size, 0, none⟩) 23 23) ∧ w' = w.alloc (.cells mnumC 3) := by
  go_enter Tryd.func20, Tryd.ntmps20
  go_wp2
  go_ret
  exact ⟨rfl, rfl⟩

set_option maxHeartbeats 4000000 in
set_option maxRecDepth 100000 in
theorem rkept0 (w : World) :
    Calls Tryd.prog 30 #[] w fun e w' => e = .returned (.slice (some ⟨w.heap.size, 0, none⟩) 23 23) ∧ w' = w.alloc (.cells mkeptC 22) := by
  go_enter Tryd.func30, Tryd.ntmps30
  go_wp2
  go_ret
  exact ⟨rfl, rfl⟩

set_option maxHeartbeats 4000000 in
set_option maxRecDepth 100000 in
theorem rfixed0 (w : World) :
    Calls Tryd.prog 23 #[] w fun e w' => e = .returned (.slice (some ⟨w.heap.size, 0, none⟩) 23 23) ∧ w' = w.alloc (.cells mfixC 22) := by
  go_enter Tryd.func23, Tryd.ntmps23
  go_wp2
  go_ret
  exact ⟨rfl, rfl⟩

/-- Twenty-three cells of a block. -/
def Row23 (w : World) (g : Nat) (f : Nat → Value) : Prop := ∀ k, k < 23 → w.cell? ⟨g, k, none⟩ = some (f k)
theorem Row23.on {w w' : World} {g : Nat} {f : Nat → Value} (h : Row23 w g f) (hb : Below w.heap.size w w') : Row23 w' g f := fun k hk => mcell_on hb (h k hk)
theorem row23_new (w : World) (cs : Array Value) (t : TypeId) (f : Nat → Value) (h : ∀ k, k < 23 → cs[k]? = some (f k)) : Row23 (w.alloc (.cells cs t)) w.heap.size f := fun k hk => by
  rw [World.cell?_alloc_at _ _ _ _ rfl]; exact h k hk

theorem rnumbers_any (w : World) :
    Calls Tryd.prog 20 #[] w fun e w' => ∃ g, e = .returned (.slice (some ⟨g, 0, none⟩) 23 23) ∧ Row23 w' g (fun k => .int .i64 (mnum k)) ∧ Below w.heap.size w w' := by
  refine (rnumbers0 w).mono ?_
  rintro e w' ⟨rfl, rfl⟩
  exact ⟨_, rfl, row23_new _ _ _ _ mnumC_at, (Below.refl _ _).alloc (Nat.le_refl _) _⟩
theorem rkept_any (w : World) :
    Calls Tryd.prog 30 #[] w fun e w' => ∃ g, e = .returned (.slice (some ⟨g, 0, none⟩) 23 23) ∧ Row23 w' g (fun k => .int .u32 (mkept k)) ∧ Below w.heap.size w w' := by
  refine (rkept0 w).mono ?_
  rintro e w' ⟨rfl, rfl⟩
  exact ⟨_, rfl, row23_new _ _ _ _ mkeptC_at, (Below.refl _ _).alloc (Nat.le_refl _) _⟩
theorem rfixed_any (w : World) :
    Calls Tryd.prog 23 #[] w fun e w' => ∃ g, e = .returned (.slice (some ⟨g, 0, none⟩) 23 23) ∧ Row23 w' g (fun k => .int .u32 (mfix k)) ∧ Below w.heap.size w w' := by
  refine (rfixed0 w).mono ?_
  rintro e w' ⟨rfl, rfl⟩
  exact ⟨_, rfl, row23_new _ _ _ _ mfixC_at, (Below.refl _ _).alloc (Nat.le_refl _) _⟩

set_option maxHeartbeats 1000000 in
theorem rplace_yes (k : Nat) (w : World) (hk : k < 23) :
    Calls Tryd.prog 6 #[.int .i64 (mnum k)] w fun e w' => e = .returned (.int .i64 k) ∧ Below w.heap.size w w' := by
  have HA : Hid (∀ j, j < k → (mnum j == mnum k) = false) := fun j hj => by simpa using mnum_apart k hk j hj
  go_enter Tryd.func6, Tryd.ntmps6
  go_wp2_with fail
  refine (rnumbers_any _).mono ?_
  rintro e w1 ⟨g, rfl, hr, hb⟩
  have HR := Lib.hid hr
  have HB := Lib.hid hb
  clear hr hb
  generalize hc : mnum k = c at *
  go_wp2
  go_loop [4] (fun i => ∃ j : Nat, j ≤ k ∧ i = .int .i64 j) (fun i => k - (intOf i).toNat)
  case atStart => exact ⟨0, Nat.zero_le _, rfl⟩
  case round =>
    obtain ⟨j, hj, rfl⟩ := hrel
    have cj : w1.cell? ⟨g, j, none⟩ = some (.int .i64 (mnum j)) := HR.out j (by omega)
    by_cases hlt : j < k
    · have hne := HA.out j hlt
      clear hc
      generalize mnum j = m at *
      go_wp2
      go_round
      case rel => exact ⟨j + 1, by omega, by go_num⟩
      case measure => simp [intOf]; omega
    · obtain rfl : j = k := by omega
      rw [hc] at cj
      clear hc
      go_wp2
      go_ret
      exact ⟨rfl, HB.out⟩

set_option maxHeartbeats 1000000 in
theorem rplace_no (c : Int) (w : World) (h : ∀ k, k < 23 → mnum k ≠ c) :
    Calls Tryd.prog 6 #[.int .i64 c] w fun e w' => e = .returned (.int .i64 (-1)) ∧ Below w.heap.size w w' := by
  have HA : Hid (∀ j, j < 23 → (mnum j == c) = false) := fun j hj => by simpa using h j hj
  clear h
  go_enter Tryd.func6, Tryd.ntmps6
  go_wp2_with fail
  refine (rnumbers_any _).mono ?_
  rintro e w1 ⟨g, rfl, hr, hb⟩
  have HR := Lib.hid hr
  have HB := Lib.hid hb
  clear hr hb
  go_wp2
  go_loop [4] (fun i => ∃ j : Nat, j ≤ 23 ∧ i = .int .i64 j) (fun i => 23 - (intOf i).toNat)
  case atStart => exact ⟨0, Nat.zero_le _, rfl⟩
  case round =>
    obtain ⟨j, hj, rfl⟩ := hrel
    by_cases hlt : j < 23
    · have cj : w1.cell? ⟨g, j, none⟩ = some (.int .i64 (mnum j)) := HR.out j hlt
      have hne := HA.out j hlt
      generalize mnum j = m at *
      go_wp2
      go_round
      case rel => exact ⟨j + 1, by omega, by go_num⟩
      case measure => simp [intOf]; omega
    · obtain rfl : j = 23 := by omega
      go_wp2
      go_ret
      exact ⟨rfl, HB.out⟩

set_option maxHeartbeats 400000 in
theorem rfast_any (k : Nat) (hk : k < 23) (w : World) :
    Calls Tryd.prog 14 #[.int .i64 (mnum k)] w fun e w' => e = .returned (.bool (mfast k)) ∧ w' = w := by
  have hb := mnum_bd k hk
  have HV : Hid (mfast k = decide (mnum k / 1024 % 4 = 3)) := rfl
  generalize mfast k = f at *
  generalize mnum k = n at *
  obtain ⟨h0, h1⟩ := hb
  have h0' : 0 ≤ n := by omega
  go_enter Tryd.func14, Tryd.ntmps14
  go_wp2
  go_ret
  refine ⟨ret_bool ?_, rfl⟩
  rw [HV.out]
  by_cases q : n / 1024 % 4 = 3 <;> simp [q]

end Go.Proofs.YtibhlbggnkobeaaDoor
