/- Layer 17: Enter and Return. -/
import Derived.Test.YtlmmebgicanmhaaTrapGo
import Derived.Test.YtlmmebgicanmhaaBars
namespace Go.Proofs.Ytlmmebgicanmhaa
open Go.RowKit
set_option linter.unusedVariables false
set_option linter.unusedSimpArgs false

/-- The registers behind a trap, and behind the way back. -/
def entK (K : Nat → Int) (pc c v : Int) : Nat → Int
  | 0 => enterS (K 0) | 1 => K 1 | 2 => K 2 | 3 => K 3 | 4 => pc | 5 => c | 6 => v | _ => 0
def retK (K : Nat → Int) : Nat → Int
  | 0 => returnS (K 0) | 1 => K 1 | 2 => K 2 | 3 => K 3 | 4 => K 4 | 5 => K 5 | 6 => K 6 | _ => 0
theorem entK_bd {K : Nat → Int} {pc c v : Int} (hk : KsB K) (p0 : 0 ≤ pc ∧ pc < 4294967296) (c0 : 0 ≤ c ∧ c < 4294967296) (v0 : 0 ≤ v ∧ v < 4294967296) : KsB (entK K pc c v) := fun j hj => by
  match j, hj with
  | 0, _ => exact enterS_bd (hk 0 (by omega)).1 (hk 0 (by omega)).2
  | 1, _ => exact hk 1 (by omega)
  | 2, _ => exact hk 2 (by omega)
  | 3, _ => exact hk 3 (by omega)
  | 4, _ => exact p0
  | 5, _ => exact c0
  | 6, _ => exact v0
theorem retK_bd {K : Nat → Int} (hk : KsB K) : KsB (retK K) := fun j hj => by
  match j, hj with
  | 0, _ => exact returnS_bd (hk 0 (by omega)).1 (hk 0 (by omega)).2
  | 1, _ => exact hk 1 (by omega)
  | 2, _ => exact hk 2 (by omega)
  | 3, _ => exact hk 3 (by omega)
  | 4, _ => exact hk 4 (by omega)
  | 5, _ => exact hk 5 (by omega)
  | 6, _ => exact hk 6 (by omega)

/-- The two steps of Status on either way, by put. -/
theorem eputs {s : Int} (s0 : 0 ≤ s) (s1 : s < 4294967296) :
    (∀ W : World, Calls Try.prog 18 #[.int .u32 s, .int .u32 128, .bool (bits .and .u32 s 8 != 0)] W fun e w' => e = .returned (.int .u32 (putOf s 7 1 (bitsOf s 3 1))) ∧ w' = W) ∧
    (∀ W : World, Calls Try.prog 18 #[.int .u32 (putOf s 7 1 (bitsOf s 3 1)), .int .u32 8, .bool false] W fun e w' => e = .returned (.int .u32 (enterS s)) ∧ w' = W) ∧
    (∀ W : World, Calls Try.prog 18 #[.int .u32 s, .int .u32 8, .bool (bits .and .u32 s 128 != 0)] W fun e w' => e = .returned (.int .u32 (putOf s 3 1 (bitsOf s 7 1))) ∧ w' = W) ∧
    (∀ W : World, Calls Try.prog 18 #[.int .u32 (putOf s 3 1 (bitsOf s 7 1)), .int .u32 128, .bool true] W fun e w' => e = .returned (.int .u32 (returnS s)) ∧ w' = W) := by
  obtain ⟨h3, h7⟩ := hears_is s0 s1
  refine ⟨fun W => ?_, fun W => ?_, fun W => ?_, fun W => ?_⟩
  · have h := gput_any s 128 7 (bits .and .u32 s 8 != 0) W (.inr rfl) rfl s0 s1
    rw [h3, pick_bit] at h
    rw [h3]; exact h
  · have b := (put_bd (x := bitsOf s 3 1) s0 s1).2
    exact gput_any _ 8 3 false W (.inl rfl) rfl b.1 b.2
  · have h := gput_any s 8 3 (bits .and .u32 s 128 != 0) W (.inl rfl) rfl s0 s1
    rw [h7, pick_bit] at h
    rw [h7]; exact h
  · have b := (put_bd (x := bitsOf s 7 1) s0 s1).1
    exact gput_any _ 128 7 true W (.inr rfl) rfl b.1 b.2

theorem two_allocs (w : World) (a b : Obj) : Below w.heap.size w ((w.alloc a).alloc b) := ((Below.refl _ _).alloc (Nat.le_refl _) _).alloc (by simp) _

set_option maxHeartbeats 3000000 in
set_option maxRecDepth 100000 in
theorem genter_any (K : Nat → Int) (pc c v : Int) (w : World) (hk : KsB K) (c0 : 0 ≤ c) (c1 : c < 4294967296) :
    Calls Try.prog 7 #[.agg #[.int .u32 (K 0), .int .u32 (K 1), .int .u32 (K 2), .int .u32 (K 3), .int .u32 (K 4), .int .u32 (K 5), .int .u32 (K 6)], .int .u32 pc, .int .u32 c, .int .u32 v] w fun e w' => e = .returned (.tuple #[.agg #[.int .u32 ((entK K pc c v) 0), .int .u32 ((entK K pc c v) 1), .int .u32 ((entK K pc c v) 2), .int .u32 ((entK K pc c v) 3), .int .u32 ((entK K pc c v) 4), .int .u32 ((entK K pc c v) 5), .int .u32 ((entK K pc c v) 6)], .int .u32 (atZ (K 2) c)]) ∧ Below w.heap.size w w' := by
  obtain ⟨p1, p2, -⟩ := eputs (hk 0 (by omega)).1 (hk 0 (by omega)).2
  have H1 := Lib.hid p1
  have H2 := Lib.hid p2
  have ht := hk 2 (by omega)
  have ha := address_is ht.1 ht.2
  have hc := called_is c0 c1
  have hp := apart_is ht.1 ht.2
  have HC : Hid (2147483648 ≤ c → bits .andNot .u32 c 2147483648 = c - 2147483648) := fun h => uncalled h c1
  have HZ : Hid (atZ (K 2) c = if 2147483648 ≤ c ∧ K 2 % 2 = 1 then (K 2 / 4 * 4 + 4 * (c - 2147483648)) % 4294967296 else K 2 / 4 * 4) := rfl
  have HT := Lib.hid ht
  have HB : Hid (∀ a b : Obj, Below w.heap.size w ((w.alloc a).alloc b)) := two_allocs w
  clear p1 p2 hk ht
  by_cases hcc : 2147483648 ≤ c
  · rw [decide_eq_true hcc] at hc
    by_cases hpp : K 2 % 2 = 1
    · rw [decide_eq_true hpp] at hp
      have hu := HC.out hcc
      have HX : Hid (2147483648 ≤ c ∧ c < 4294967296 ∧ K 2 % 2 = 1) := ⟨hcc, c1, hpp⟩
      clear c0 c1 hcc hpp
      go_enter Try.func7, Try.ntmps7
      go_wp2_with fail
      refine (H1.out _).mono ?_
      rintro e w1 ⟨rfl, rfl⟩
      go_wp2_with fail
      refine (H2.out _).mono ?_
      rintro e w1 ⟨rfl, rfl⟩
      go_wp2
      refine bodyPost_ret (v := .tuple #[.agg #[.int .u32 ((entK K pc c v) 0), .int .u32 ((entK K pc c v) 1), .int .u32 ((entK K pc c v) 2), .int .u32 ((entK K pc c v) 3), .int .u32 ((entK K pc c v) 4), .int .u32 ((entK K pc c v) 5), .int .u32 ((entK K pc c v) 6)], .int .u32 (atZ (K 2) c)]) (by
        have hz : atZ (K 2) c = (K 2 / 4 * 4 + 4 * (c - 2147483648) % 4294967296) % 4294967296 := by rw [HZ.out]; have hx := HX.out; have ht := HT.out; split <;> omega
        simp [results, Try.results7, go_sem, entK, hz]) rfl ?_
      exact ⟨rfl, HB.out _ _⟩
    · rw [decide_eq_false hpp] at hp
      have HX : Hid (¬ K 2 % 2 = 1) := hpp
      clear c0 c1 hcc hpp
      go_enter Try.func7, Try.ntmps7
      go_wp2_with fail
      refine (H1.out _).mono ?_
      rintro e w1 ⟨rfl, rfl⟩
      go_wp2_with fail
      refine (H2.out _).mono ?_
      rintro e w1 ⟨rfl, rfl⟩
      go_wp2
      refine bodyPost_ret (v := .tuple #[.agg #[.int .u32 ((entK K pc c v) 0), .int .u32 ((entK K pc c v) 1), .int .u32 ((entK K pc c v) 2), .int .u32 ((entK K pc c v) 3), .int .u32 ((entK K pc c v) 4), .int .u32 ((entK K pc c v) 5), .int .u32 ((entK K pc c v) 6)], .int .u32 (atZ (K 2) c)]) (by
        have hz : atZ (K 2) c = K 2 / 4 * 4 := by rw [HZ.out]; have hx := HX.out; have ht := HT.out; split <;> omega
        simp [results, Try.results7, go_sem, entK, hz]) rfl ?_
      exact ⟨rfl, HB.out _ _⟩
  · rw [decide_eq_false hcc] at hc
    · have HX : Hid (¬ 2147483648 ≤ c) := hcc
      clear c0 c1 hcc
      go_enter Try.func7, Try.ntmps7
      go_wp2_with fail
      refine (H1.out _).mono ?_
      rintro e w1 ⟨rfl, rfl⟩
      go_wp2_with fail
      refine (H2.out _).mono ?_
      rintro e w1 ⟨rfl, rfl⟩
      go_wp2
      refine bodyPost_ret (v := .tuple #[.agg #[.int .u32 ((entK K pc c v) 0), .int .u32 ((entK K pc c v) 1), .int .u32 ((entK K pc c v) 2), .int .u32 ((entK K pc c v) 3), .int .u32 ((entK K pc c v) 4), .int .u32 ((entK K pc c v) 5), .int .u32 ((entK K pc c v) 6)], .int .u32 (atZ (K 2) c)]) (by
        have hz : atZ (K 2) c = K 2 / 4 * 4 := by rw [HZ.out]; have hx := HX.out; have ht := HT.out; split <;> omega
        simp [results, Try.results7, go_sem, entK, hz]) rfl ?_
      exact ⟨rfl, HB.out _ _⟩

set_option maxHeartbeats 3000000 in
set_option maxRecDepth 100000 in
theorem gret_any (K : Nat → Int) (w : World) (hk : KsB K) :
    Calls Try.prog 12 #[.agg #[.int .u32 (K 0), .int .u32 (K 1), .int .u32 (K 2), .int .u32 (K 3), .int .u32 (K 4), .int .u32 (K 5), .int .u32 (K 6)]] w fun e w' => e = .returned (.tuple #[.agg #[.int .u32 ((retK K) 0), .int .u32 ((retK K) 1), .int .u32 ((retK K) 2), .int .u32 ((retK K) 3), .int .u32 ((retK K) 4), .int .u32 ((retK K) 5), .int .u32 ((retK K) 6)], .int .u32 (K 4)]) ∧ Below w.heap.size w w' := by
  obtain ⟨-, -, p1, p2⟩ := eputs (hk 0 (by omega)).1 (hk 0 (by omega)).2
  have H1 := Lib.hid p1
  have H2 := Lib.hid p2
  have HB : Hid (∀ a b : Obj, Below w.heap.size w ((w.alloc a).alloc b)) := two_allocs w
  clear p1 p2 hk
  go_enter Try.func12, Try.ntmps12
  go_wp2_with fail
  refine (H1.out _).mono ?_
  rintro e w1 ⟨rfl, rfl⟩
  go_wp2_with fail
  refine (H2.out _).mono ?_
  rintro e w1 ⟨rfl, rfl⟩
  go_wp2_with fail
  go_region
  all_goals go_wp2
  refine bodyPost_ret (v := .tuple #[.agg #[.int .u32 ((retK K) 0), .int .u32 ((retK K) 1), .int .u32 ((retK K) 2), .int .u32 ((retK K) 3), .int .u32 ((retK K) 4), .int .u32 ((retK K) 5), .int .u32 ((retK K) 6)], .int .u32 (K 4)]) (by simp [results, Try.results12, go_sem, retK]) rfl ?_
  exact ⟨rfl, (HB.out _ _).drew⟩
end Go.Proofs.Ytlmmebgicanmhaa
