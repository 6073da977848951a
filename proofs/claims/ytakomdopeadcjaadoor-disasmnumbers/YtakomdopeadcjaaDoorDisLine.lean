/- Layer 5: the parts of a text joined (line), which instructions have an address (Loads, hasAddress). -/
import Derived.Test.YtakomdopeadcjaaDoorDisNum
import Derived.Test.YtakomdopeadcjaaDoorInstTabs
namespace Go.Proofs.YtakomdopeadcjaaDoor
open Go.RowKit Go.Sort
set_option linter.unusedVariables false

theorem join_any (bk c : Nat) (xs : List (List UInt8)) (w : World) (hcells : ∀ (j : Nat) x, xs[j]? = some x → w.cell? ⟨bk, j, none⟩ = some (.string (bs x))) (hbk : bk < w.heap.size) (hN : xs.length ≤ 1000) (hcap : xs.length ≤ c) (hlen : (Lib.join xs [44, 32]).length ≤ 1000) :
    Calls Tryd.prog 53 #[.slice (some ⟨bk, 0, none⟩) xs.length c, .string ⟨#[44, 32]⟩] w fun e w' => e = .returned (.string (bs (Lib.join xs [44, 32]))) ∧ Below w.heap.size w w' := by
  have e : (xs.map bs).map (·.data.toList) = xs := by
    rw [List.map_map]
    conv => rhs; rw [← List.map_id xs]
    exact List.map_congr_left fun x _ => by simp [bs]
  have h := Any.strings_Join lays156 Builder_Extra_156 bk 0 c (xs.map bs) ⟨#[44, 32]⟩ w (fun j x hx => by
    rw [List.getElem?_map] at hx
    obtain ⟨y, hy, rfl⟩ := Option.map_eq_some_iff.1 hx
    rw [Nat.zero_add]; exact hcells j y hy) hbk (by simp; omega) (by simpa using hcap) (by rw [e]; show (Lib.join xs [44, 32]).length ≤ _; omega)
  rw [e, List.length_map] at h
  exact h

theorem line_any (nm : List UInt8) (bk c : Nat) (xs : List (List UInt8)) (w : World) (hnm : nm.length ≤ 20) (hcells : ∀ (j : Nat) x, xs[j]? = some x → w.cell? ⟨bk, j, none⟩ = some (.string (bs x))) (hbk : bk < w.heap.size) (hx : xs.length ≠ 0) (hN : xs.length ≤ 1000) (hcap : xs.length ≤ c) (hlen : (Lib.join xs [44, 32]).length ≤ 1000) :
    Calls Tryd.prog 27 #[.string (bs nm), .slice (some ⟨bk, 0, none⟩) xs.length c] w fun e w' => e = .returned (.string (bs (nm ++ 32 :: Lib.join xs [44, 32]))) ∧ Below w.heap.size w w' := by
  have hj := join_any bk c xs w hcells hbk hN hcap hlen
  have h1 : (bs nm).size ≤ 20 := hnm
  have h2 : (bs (Lib.join xs [44, 32])).size ≤ 1000 := hlen
  have h0 : ((xs.length : Int) == 0) = false := by simpa using hx
  have he : bs nm ++ (⟨#[32]⟩ : ByteArray) ++ bs (Lib.join xs [44, 32]) = bs (nm ++ 32 :: Lib.join xs [44, 32]) := by
    show bs nm ++ bs [32] ++ _ = _
    rw [bs_app, bs_app, List.append_assoc]; rfl
  have HE := Lib.hid he
  clear hcells hbk hx hN hcap hlen hnm he
  go_enter Tryd.func27, Tryd.ntmps27
  go_wp2_with (go_at_call 53; refine hj.mono ?_; rintro e w' ⟨rfl, hb⟩)
  go_ret
  refine ⟨?_, hb⟩
  rw [← HE.out]; rfl

theorem line0 (nm : List UInt8) (w : World) : Calls Tryd.prog 27 #[.string (bs nm), .slice none 0 0] w fun e w' => e = .returned (.string (bs nm)) ∧ w' = w := by
  go_enter Tryd.func27, Tryd.ntmps27
  go_wp2
  go_ret
  exact ⟨rfl, rfl⟩

theorem line1 (nm a : List UInt8) (bk : Nat) (w : World) (hnm : nm.length ≤ 20) (ha : a.length ≤ 100) (h0 : w.cell? ⟨bk, 0, none⟩ = some (.string (bs a))) :
    Calls Tryd.prog 27 #[.string (bs nm), .slice (some ⟨bk, 0, none⟩) 1 1] w fun e w' => e = .returned (.string (bs (nm ++ 32 :: a))) ∧ Below w.heap.size w w' := by
  have e : Lib.join [a] [44, 32] = a := Lib.join_one _ _
  have h := line_any nm bk 1 [a] w hnm (fun j x hx => by
    match j, hx with
    | 0, hx => simp at hx; subst hx; exact h0) (lt_of_cell h0) (by simp) (by simp) (by simp) (by rw [e]; omega)
  rw [e] at h
  exact h
theorem join2 (a b : List UInt8) : Lib.join [a, b] [44, 32] = a ++ 44 :: 32 :: b := by
  rw [Lib.join_cons]; simp [Lib.joinTail]
theorem join3 (a b c : List UInt8) : Lib.join [a, b, c] [44, 32] = a ++ 44 :: 32 :: (b ++ 44 :: 32 :: c) := by
  rw [Lib.join_cons]; simp [Lib.joinTail]
theorem line2 (nm a b : List UInt8) (bk : Nat) (w : World) (hnm : nm.length ≤ 20) (ha : a.length ≤ 100) (hb : b.length ≤ 100) (h0 : w.cell? ⟨bk, 0, none⟩ = some (.string (bs a))) (h1 : w.cell? ⟨bk, 1, none⟩ = some (.string (bs b))) :
    Calls Tryd.prog 27 #[.string (bs nm), .slice (some ⟨bk, 0, none⟩) 2 2] w fun e w' => e = .returned (.string (bs (nm ++ 32 :: (a ++ 44 :: 32 :: b)))) ∧ Below w.heap.size w w' := by
  have h := line_any nm bk 2 [a, b] w hnm (fun j x hx => by
    match j, hx with
    | 0, hx => simp at hx; subst hx; exact h0
    | 1, hx => simp at hx; subst hx; exact h1) (lt_of_cell h0) (by simp) (by simp) (by simp) (by rw [join2]; simp; omega)
  rw [join2] at h
  exact h
theorem line3 (nm a b c : List UInt8) (bk : Nat) (w : World) (hnm : nm.length ≤ 20) (ha : a.length ≤ 100) (hb : b.length ≤ 100) (hc : c.length ≤ 100) (h0 : w.cell? ⟨bk, 0, none⟩ = some (.string (bs a))) (h1 : w.cell? ⟨bk, 1, none⟩ = some (.string (bs b))) (h2 : w.cell? ⟨bk, 2, none⟩ = some (.string (bs c))) :
    Calls Tryd.prog 27 #[.string (bs nm), .slice (some ⟨bk, 0, none⟩) 3 3] w fun e w' => e = .returned (.string (bs (nm ++ 32 :: (a ++ 44 :: 32 :: (b ++ 44 :: 32 :: c))))) ∧ Below w.heap.size w w' := by
  have h := line_any nm bk 3 [a, b, c] w hnm (fun j x hx => by
    match j, hx with
    | 0, hx => simp at hx; subst hx; exact h0
    | 1, hx => simp at hx; subst hx; exact h1
    | 2, hx => simp at hx; subst hx; exact h2) (lt_of_cell h0) (by simp) (by simp) (by simp) (by rw [join3]; simp; omega)
  rw [join3] at h
  exact h

/-- Among the instructions of the third form: those up to the fifteenth. -/
theorem hasAddr_any (k : Nat) (hk : k < 58) (hz : formZ k = 3) (w : World) :
    Calls Tryd.prog 42 #[.int .i64 k] w fun e w' => e = .returned (.bool (decide (k ≤ 15))) ∧ w' = w := by
  have hc : k = 4 ∨ k = 11 ∨ k = 12 ∨ k = 13 ∨ k = 14 ∨ k = 15 ∨ k = 19 ∨ k = 20 ∨ k = 21 ∨ k = 22 ∨ k = 23 ∨ k = 24 ∨ k = 38 ∨ k = 39 := by
    revert k; decide +kernel
  rcases hc with rfl | rfl | rfl | rfl | rfl | rfl | rfl | rfl | rfl | rfl | rfl | rfl | rfl | rfl
  all_goals
    clear hz hk
    go_enter Tryd.func42, Tryd.ntmps42
    go_wp2
    go_ret
    exact ⟨rfl, rfl⟩
end Go.Proofs.YtakomdopeadcjaaDoor
