/- Layer 3: the table of matches; what opOf and Legal answer of any word. -/
import Derived.Test.YtakomdopeadcjaaDoorDecField
namespace Go.Proofs.YtakomdopeadcjaaDoor
open Go.RowKit
set_option linter.unusedVariables false

def matchT : List Int := 0 :: matchL
def matchZ (k : Nat) : Int := matchT.getD k 0

def MatchTab (w : World) : Prop := ∀ k, k < 58 → w.cell? ⟨2, k, none⟩ = some (.int .u32 (matchZ k))
theorem matchTab_of_laid {l : List (String × DataW Unit)} {W : World} (h : laidMetH Tryd.prog l W) (hp : (l.all fun x => x.2.handleName?.isNone) = true) (hm : ("mimesis/decode.matches", Lib.tabData .u32 matchT) ∈ l) : MatchTab W := by
  rw [MakeChecks.laidMetH_plain _ _ _ hp] at h
  obtain ⟨ps, hv, _⟩ := h
  obtain ⟨g, t, cs, fuel, p, h1, h2, h3, h4⟩ := laid_mem hv hm
  obtain rfl : t = 84 := by
    obtain rfl := Option.some.inj ((show Tryd.prog.globalNamed "mimesis/decode.matches" = some 2 by kernel_rfl).symm.trans h1)
    exact Option.some.inj (h2.symm.trans (show (Tryd.prog.globals[2]?).map (·.type) = some 84 by kernel_rfl))
  have hcs := Lib.cells_of_tab Tryd.underlying84 Tryd.underlying25 (by kernel_rfl) (by kernel_rfl) h4
  obtain rfl := Option.some.inj ((show Tryd.prog.globalNamed "mimesis/decode.matches" = some 2 by kernel_rfl).symm.trans h1)
  intro k hk
  rw [World.var?_cell h1 h3 k, ← Array.getElem?_toList, hcs]
  have : k < matchT.length := hk
  simp [matchZ, List.getD, this]
theorem MatchTab.below {w w' : World} (h : MatchTab w) (hb : Below w.heap.size w w') : MatchTab w' := fun k hk => by
  rw [hb.cell (p := ⟨2, k, none⟩) (lt_of_cell (h k hk))]; exact h k hk

theorem maskF_cases (k f : Int) : (maskF k f = 4294967295 ∧ k = 115 ∧ f = 0) ∨ (maskF k f = 4261441663 ∧ (k = 51 ∨ (k = 19 ∧ (f = 1 ∨ f = 5)))) ∨ (maskF k f = 28799 ∧ k ≠ 55 ∧ k ≠ 23 ∧ k ≠ 111) ∨ (maskF k f = 127 ∧ (k = 55 ∨ k = 23 ∨ k = 111)) := by
  unfold maskF
  split
  · exact .inl ⟨rfl, by assumption⟩
  · split
    · exact .inr (.inl ⟨rfl, by assumption⟩)
    · split
      · exact .inr (.inr (.inl ⟨rfl, by assumption⟩))
      · exact .inr (.inr (.inr ⟨rfl, by omega⟩))
theorem maskF_low (k f : Int) (h : k = 55 ∨ k = 23 ∨ k = 111) : maskF k f = 127 := by
  rcases h with rfl | rfl | rfl <;> simp [maskF]

theorem maskL_of : ∀ j, j < 57 → maskF (matchL.getD j 0 % 128) (matchL.getD j 0 / 4096 % 8) = maskL.getD j 0 := by decide +kernel
theorem maskL_vals : ∀ j, j < 57 → maskL.getD j 0 = 127 ∨ maskL.getD j 0 = 28799 ∨ maskL.getD j 0 = 4261441663 ∨ maskL.getD j 0 = 4294967295 := by decide +kernel
theorem maskL_low : ∀ j, j < 57 → maskL.getD j 0 = 127 → matchL.getD j 0 % 128 = 55 ∨ matchL.getD j 0 % 128 = 23 ∨ matchL.getD j 0 % 128 = 111 := by decide +kernel

/-- What a hit says of kind and funct3. -/
theorem and_parts (w m v : Int) (h0 : 0 ≤ w) (h1 : w < 4294967296) (hm : m = 127 ∨ m = 28799 ∨ m = 4261441663 ∨ m = 4294967295) (h : bits .and .u32 w m = v) :
    w % 128 = v % 128 ∧ (m ≠ 127 → w / 4096 % 8 = v / 4096 % 8) := by
  rcases hm with rfl | rfl | rfl | rfl
  · rw [u32_and7 w h0 h1] at h; omega
  · rw [u32_and707f w h0 h1] at h; omega
  · rw [u32_andfe w h0 h1] at h; omega
  · rw [u32_andff w h0 h1] at h; omega

theorem maskF_vals (k f : Int) : maskF k f = 127 ∨ maskF k f = 28799 ∨ maskF k f = 4261441663 ∨ maskF k f = 4294967295 := by
  have := maskF_cases k f; omega

theorem held_hit (w : Int) (h0 : 0 ≤ w) (h1 : w < 4294967296) (j : Nat) (hj : j < 57) (h : matchL.getD j 0 = bits .and .u32 w (maskF (w % 128) (w / 4096 % 8))) : kindOf w = j + 1 := by
  obtain ⟨p1, p2⟩ := and_parts w _ _ h0 h1 (maskF_vals _ _) h.symm
  have e : maskF (w % 128) (w / 4096 % 8) = maskL.getD j 0 := by
    by_cases c : maskF (w % 128) (w / 4096 % 8) = 127
    · rcases maskF_cases (w % 128) (w / 4096 % 8) with ⟨d, _⟩ | ⟨d, _⟩ | ⟨d, _⟩ | ⟨_, d⟩
      · omega
      · omega
      · omega
      · rw [c, ← maskL_of j hj, maskF_low _ _ (by omega)]
    · rw [← maskL_of j hj, p1, p2 c]
  rw [e] at h
  exact kind_of_hit w h0 h1 j hj h.symm

theorem hit_held (w : Int) (h0 : 0 ≤ w) (h1 : w < 4294967296) (hk : kindOf w ≠ 0) : matchL.getD (kindOf w - 1) 0 = bits .and .u32 w (maskF (w % 128) (w / 4096 % 8)) := by
  have hit := kind_hit w h0 h1 hk
  have hlt := kind_lt w
  obtain ⟨j, hj⟩ : ∃ j, kindOf w = j + 1 := ⟨kindOf w - 1, by omega⟩
  have hj57 : j < 57 := by omega
  rw [hj, Nat.add_sub_cancel] at hit ⊢
  obtain ⟨p1, p2⟩ := and_parts w _ _ h0 h1 (maskL_vals j hj57) hit
  have e : maskF (w % 128) (w / 4096 % 8) = maskL.getD j 0 := by
    by_cases c : maskL.getD j 0 = 127
    · have := maskL_low j hj57 c
      rw [c, maskF_low _ _ (by omega)]
    · rw [← maskL_of j hj57, p1, p2 c]
  rw [e]; exact hit.symm

theorem match_yes (w : Int) (h0 : 0 ≤ w) (h1 : w < 4294967296) (hk : kindOf w ≠ 0) : matchZ (kindOf w) = bits .and .u32 w (maskF (w % 128) (w / 4096 % 8)) := by
  rw [← hit_held w h0 h1 hk]
  obtain ⟨j, hj⟩ : ∃ j, kindOf w = j + 1 := ⟨kindOf w - 1, by omega⟩
  rw [hj]; rfl
theorem match_no (w : Int) (h0 : 0 ≤ w) (h1 : w < 4294967296) (k : Nat) (hk : 1 ≤ k) (hk2 : k < 58) (hne : k ≠ kindOf w) : (matchZ k == bits .and .u32 w (maskF (w % 128) (w / 4096 % 8))) = false := by
  rw [beq_eq_false_iff_ne]
  intro h
  obtain ⟨j, rfl⟩ : ∃ j, k = j + 1 := ⟨k - 1, by omega⟩
  exact hne (held_hit w h0 h1 j (by omega) h).symm

set_option maxHeartbeats 400000 in
theorem opOf_any (x : Int) (w : World) (h0 : 0 ≤ x) (h1 : x < 4294967296) (ht : MatchTab w) :
    Calls Tryd.prog 49 #[.int .u32 x] w fun e w' => e = .returned (.int .i64 (kindOf x)) ∧ w' = w := by
  have HY : Hid (kindOf x ≠ 0 → matchZ (kindOf x) = bits .and .u32 x (maskF (x % 128) (x / 4096 % 8))) := match_yes x h0 h1
  have HN : Hid (∀ k : Nat, 1 ≤ k → k < 58 → k ≠ kindOf x → (matchZ k == bits .and .u32 x (maskF (x % 128) (x / 4096 % 8))) = false) := match_no x h0 h1
  have HT : Hid (MatchTab w) := ht
  have HL : Hid (kindOf x < 58) := kind_lt x
  clear ht
  generalize hM : maskF (x % 128) (x / 4096 % 8) = M at *
  go_enter Tryd.func49, Tryd.ntmps49
  go_wp2_with fail
  refine (maskOf_any x _ h0 h1).mono ?_
  rintro e w' ⟨rfl, hw⟩
  have hw := hw.symm; subst hw
  rw [hM]
  clear hM
  go_wp2
  by_cases hz : kindOf x = 0
  · go_loop [4] (fun i => ∃ j : Nat, 1 ≤ j ∧ j ≤ 58 ∧ i = .int .i64 j) (fun i => 58 - (intOf i).toNat)
    case atStart => exact ⟨1, by omega, by omega, rfl⟩
    case round =>
      obtain ⟨j, hj1, hj, rfl⟩ := hrel
      by_cases hlt : j < 58
      · have hc := HT.out j hlt
        have hne := HN.out j hj1 hlt (by omega)
        go_wp2
        go_round
        case rel => exact ⟨j + 1, by omega, by omega, by go_num⟩
        case measure => simp [intOf]; omega
      · obtain rfl : j = 58 := by omega
        go_wp2
        go_ret
        exact ⟨rfl, rfl⟩
  · have hy := HY.out hz
    have hl := HL.out
    generalize hkk : kindOf x = k at *
    have HK : Hid (kindOf x = k) := hkk
    clear hkk
    go_loop [4] (fun i => ∃ j : Nat, 1 ≤ j ∧ j ≤ k ∧ i = .int .i64 j) (fun i => k - (intOf i).toNat)
    case atStart => exact ⟨1, by omega, by omega, rfl⟩
    case round =>
      obtain ⟨j, hj1, hj, rfl⟩ := hrel
      have hc := HT.out j (by omega)
      by_cases hlt : j < k
      · have hne := HN.out j hj1 (by omega) (by omega)
        go_wp2
        go_round
        case rel => exact ⟨j + 1, by omega, by omega, by go_num⟩
        case measure => simp [intOf]; omega
      · obtain rfl : j = k := by omega
        have heq : (matchZ j == bits .and .u32 x M) = true := by rw [hy]; exact beq_self_eq_true _
        clear hy
        go_wp2
        go_ret
        exact ⟨ret_int (by rw [HK.out]), rfl⟩

end Go.Proofs.YtakomdopeadcjaaDoor
