/- Layer 12: New. -/
import Derived.Test.YtkbccccjjlkgbaaConGo
namespace Go.Proofs.Ytkbccccjjlkgbaa
open Go.RowKit
set_option linter.unusedVariables false
set_option maxRecDepth 100000

/-- Ticks that do not fall. -/
def Rises (K : Nat) (T : Nat → Int) : Prop := ∀ i, i + 1 < K → T i ≤ T (i + 1)

/-- Arrivals, as cells. -/
def arrTo (T Y : Nat → Int) : Nat → List Value
  | 0 => []
  | k + 1 => arrTo T Y k ++ [.int .u64 (T k), .int .u8 (Y k)]
theorem arrTo_length (T Y : Nat → Int) : ∀ k, (arrTo T Y k).length = k * 2
  | 0 => rfl
  | k + 1 => by simp [arrTo, arrTo_length T Y k]; omega
theorem arrTo_at (T Y : Nat → Int) : ∀ n k, k < n → (arrTo T Y n)[k * 2]? = some (.int .u64 (T k)) ∧ (arrTo T Y n)[k * 2 + 1]? = some (.int .u8 (Y k))
  | 0, k, h => absurd h (by omega)
  | n + 1, k, h => by
    have hl := arrTo_length T Y n
    by_cases c : k < n
    · rw [arrTo, List.getElem?_append_left (by omega), List.getElem?_append_left (by omega)]
      exact arrTo_at T Y n k c
    · obtain rfl : k = n := by omega
      rw [arrTo, List.getElem?_append_right (by omega), List.getElem?_append_right (by omega), hl, Nat.sub_self, Nat.add_sub_cancel_left]
      exact ⟨rfl, rfl⟩
theorem arrTo_one (T Y : Nat → Int) : ∀ n, ∀ u ∈ arrTo T Y n, u.oneCell' = true
  | 0, u, h => by cases h
  | n + 1, u, h => by
    rw [arrTo] at h
    rcases List.mem_append.1 h with h | h
    · exact arrTo_one T Y n u h
    · simp at h
      rcases h with rfl | rfl <;> rfl
theorem arrTo_cells {w : World} {b o n : Nat} {T Y : Nat → Int} (h : ArrC w b o n T Y) : ∀ j u, (arrTo T Y n)[j]? = some u → w.cell? ⟨b, o + j, none⟩ = some u := by
  intro j u hj
  have hlt : j < n * 2 := by
    have := (List.getElem?_eq_some_iff.1 hj).1
    rwa [arrTo_length] at this
  obtain ⟨k, hk⟩ : ∃ k, j = k * 2 ∨ j = k * 2 + 1 := ⟨j / 2, by omega⟩
  have hkn : k < n := by omega
  obtain ⟨a1, a2⟩ := arrTo_at T Y n k hkn
  rcases hk with rfl | rfl
  · rw [a1] at hj; rw [(h k hkn).1]; exact hj
  · rw [a2] at hj; rw [← Nat.add_assoc, (h k hkn).2]; exact hj
theorem IsArr.src {w W : World} {a : Option Addr} {len cap : Nat} {T Y : Nat → Int} (h : IsArr w a len cap T Y) (hb : Below w.heap.size w W) :
    (Value.slice a len cap = .slice none 0 0 ∧ len = 0) ∨ ∃ ad c, Value.slice a len cap = .slice (some ad) len c ∧ ∀ j u, (arrTo T Y len)[j]? = some u → W.cell? (ad.add j) = some u := by
  rcases (h.on hb).2 with ⟨rfl, rfl, rfl⟩ | ⟨rfl, ad, rfl⟩ | ⟨b, off, rfl, hc⟩
  · exact .inl ⟨rfl, rfl⟩
  · exact .inr ⟨ad, cap, rfl, fun j u hj => by simp [arrTo] at hj⟩
  · exact .inr ⟨_, cap, rfl, fun j u hj => by rw [Addr.add_lit]; exact arrTo_cells hc j u hj⟩

set_option maxHeartbeats 400000 in
theorem cnew_long (a : Option Addr) (len cap : Nat) (w : World) (hl : len ≤ maxLen) (h : 256 < len) :
    Calls Try.prog 24 #[.slice a len cap] w fun e w' => e = .returned (.tuple #[.pointer none, .int .i64 3]) ∧ w' = w := by
  unfold maxLen at hl
  go_enter Try.func24, Try.ntmps24
  go_wp2
  go_ret2
  exact ⟨rfl, rfl⟩

set_option maxHeartbeats 1600000 in
theorem cnew_form {a : Option Addr} {len cap : Nat} {T Y : Nat → Int} (w : World) (hl : len ≤ 256) (ha : IsArr w a len cap T Y) (h : ¬ Rises len T) :
    Calls Try.prog 24 #[.slice a len cap] w fun e w' => e = .returned (.tuple #[.pointer none, .int .i64 1]) ∧ Q w w' := by
  have HN := Lib.hid h
  have h0 : 0 < len := by
    rcases Nat.eq_zero_or_pos len with rfl | h1
    · exact absurd (fun i hi => absurd hi (by omega)) h
    · exact h1
  obtain ⟨b, off, rfl, hc⟩ := ha.at h0
  have HA := Lib.hid hc
  clear hc ha h
  go_enter Try.func24, Try.ntmps24
  go_wp2_with fail
  go_loopw [4] (fun i wr => ∃ j : Nat, j < len ∧ i = .int .i64 ((j : Int) + 1) ∧ (∀ k, k < j → T k ≤ T (k + 1)) ∧ Q w wr) (fun i _ => len + 1 - (intOf i).toNat)
  case atStart => exact ⟨0, h0, rfl, fun k hk => absurd hk (Nat.not_lt_zero k), Q.refl _⟩
  case round =>
    obtain ⟨j, hj, rfl, hr, hq⟩ := hrel
    have HR := Lib.hid hr
    clear hr
    by_cases hlt : j + 1 < len
    · obtain ⟨nq0, rfl⟩ := hq
      have c0 : w.cell? ⟨b, off + j * 2, none⟩ = some (.int .u64 (T j)) := (HA.out j (by omega)).1
      have c1 : w.cell? ⟨b, off + (j + 1) * 2, none⟩ = some (.int .u64 (T (j + 1))) := (HA.out (j + 1) hlt).1
      have g1 : (0 : Int) ≤ (j : Int) + 1 := by omega
      have g2 : (j : Int) + 1 < len := by omega
      have g3 : ((j : Int) + 1).toNat = j + 1 := by omega
      have g4 : IntKind.i64.wrap (j : Int) = j := by rw [IntKind.wrap_i64]; omega
      have g5 : (j : Int) < len := by omega
      by_cases hle : T j ≤ T (j + 1)
      · have HR2 : Hid (∀ k, k < j + 1 → T k ≤ T (k + 1)) := fun k hk => by
          by_cases e : k = j
          · subst e; exact hle
          · exact HR.out k (by omega)
        generalize T j = x at c0 hle
        generalize T (j + 1) = y at c1 hle
        go_wp2_with fail
        go_quiet (fail)
        go_wp2
        go_roundw
        case rel => exact ⟨j + 1, hlt, by go_num, HR2.out, ⟨_, rfl⟩⟩
        case measure => simp [intOf]; omega
      · have hgt : T (j + 1) < T j := by omega
        clear hle
        generalize T j = x at c0 hgt
        generalize T (j + 1) = y at c1 hgt
        go_wp2_with fail
        go_quiet (fail)
        go_wp2
        go_ret2
        exact ⟨rfl, (Q.refl w).drewN _ |>.drewN _⟩
    · exact absurd (fun i hi => HR.out i (by omega)) HN.out

set_option maxHeartbeats 1600000 in
theorem cnew_yes {a : Option Addr} {len cap : Nat} {T Y : Nat → Int} (w : World) (hl : len ≤ 256) (ha : IsArr w a len cap T Y) (h : Rises len T) :
    Calls Try.prog 24 #[.slice a len cap] w fun e w' => ∃ R S, e = .returned (.tuple #[.pointer (some ⟨R, 0, none⟩), .int .i64 0]) ∧ IsCon w' R S len T Y CS.new ∧ (∀ k, S k → w.heap.size ≤ k) ∧ Below w.heap.size w w' := by
  have HN := Lib.hid h
  have HA := Lib.hid ha
  obtain ⟨i0, hi, hz0, hz1, hz2⟩ := info_parts (P := Try.prog) (e := 73) (z := .agg #[.int .u64 0, .int .u8 0]) (size := 2) (bytes := 16) (by kernel_rfl)
  clear h ha
  go_enter Try.func24, Try.ntmps24
  go_wp2_with fail
  go_loopw [4] (fun i wr => ∃ j : Nat, j ≤ len ∧ i = .int .i64 ((j : Int) + 1) ∧ Q w wr) (fun i _ => len + 1 - (intOf i).toNat)
  case atStart => exact ⟨0, Nat.zero_le _, rfl, Q.refl _⟩
  case round =>
    obtain ⟨j, hj, rfl, hq⟩ := hrel
    by_cases hlt : j + 1 < len
    · obtain ⟨b, off, rfl, hc⟩ := HA.out.at (by omega)
      obtain ⟨nq0, rfl⟩ := hq
      have c0 : w.cell? ⟨b, off + j * 2, none⟩ = some (.int .u64 (T j)) := (hc j (by omega)).1
      have c1 : w.cell? ⟨b, off + (j + 1) * 2, none⟩ = some (.int .u64 (T (j + 1))) := (hc (j + 1) hlt).1
      have hle := HN.out j hlt
      clear hc
      have g1 : (0 : Int) ≤ (j : Int) + 1 := by omega
      have g2 : (j : Int) + 1 < len := by omega
      have g3 : ((j : Int) + 1).toNat = j + 1 := by omega
      have g4 : IntKind.i64.wrap (j : Int) = j := by rw [IntKind.wrap_i64]; omega
      have g5 : (j : Int) < len := by omega
      generalize T j = x at c0 hle
      generalize T (j + 1) = y at c1 hle
      go_wp2_with fail
      go_quiet (fail)
      go_wp2
      go_roundw
      case rel => exact ⟨j + 1, by omega, by go_num, ⟨_, rfl⟩⟩
      case measure => simp [intOf]; omega
    · have HB0 : Hid (Below w.heap.size w (wr.alloc (.cells #[] 73))) := (hq.below _).alloc (hq.below w.heap.size).size _
      have hs : wr.heap.size = w.heap.size := by obtain ⟨k, rfl⟩ := hq; rfl
      have HO0 : Hid ((wr.alloc (.cells #[] 73)).ownsRow w.heap.size 73 2 (.slice (some ⟨wr.heap.size, 0, none⟩) 0 0) 0 []) := World.ownsRow_made wr #[] 0 (by omega) (by decide) rfl
      have HSRC := Lib.hid (HA.out.src HB0.out)
      clear hq HA HN hs
      have hlt' : ¬ ((j : Int) + 1 < len) := by omega
      have hj' : (j : Int) ≤ 256 := by omega
      clear hj hlt
      go_wp2_with (first
        | (at_builtin; refine wpList_append_src rfl (.tmp 26) (.tmp 27) 22 rfl w.heap.size 73 i0 (.agg #[.int .u64 0, .int .u8 0]) 2 16 Try.underlying22 hi hz0 hz1 hz2 rfl (by decide) _ 0 [] rfl HO0.out _ len (arrTo T Y len) rfl HSRC.out (arrTo_length _ _ _) (arrTo_one _ _ _) (by unfold maxLen; omega) (by omega) HB0.out.size ?_))
      intro v1 w1 hown1 hgr1 hnil
      have HB1 : Hid (Below w.heap.size w w1) := HB0.out.grown hgr1 HB0.out.size (fun j hj => (HO0.out.lt j hj).1)
      have hv : ∃ A c, v1 = .slice (some ⟨A, 0, none⟩) len c ∧ w.heap.size ≤ A ∧ A < w1.heap.size ∧ ArrC w1 A 0 len T Y := by
        obtain ⟨_, h0 | ⟨A, c, cur, rfl, hA, hg, _⟩⟩ := id hown1
        · exact absurd h0.1 (by simpa using hnil)
        · refine ⟨A, c, rfl, hA, (Array.getElem?_eq_some_iff.1 hg).1, fun i hi => ?_⟩
          rw [Nat.zero_add, hown1.cellAt _ (by omega), hown1.cellAt _ (by omega)]
          exact arrTo_at T Y len i hi
      obtain ⟨A, c, rfl, hA, hA1, hC⟩ := hv
      have HAA : Hid (w.heap.size ≤ A ∧ A < w1.heap.size) := ⟨hA, hA1⟩
      have HCC := Lib.hid hC
      clear hown1 hgr1 hnil hA hA1 hC
      go_wp2_with fail
      refine (fnew_row w1).mono ?_
      rintro e w2 ⟨F, rfl, hF, hi2, hb2⟩
      have HFF := Lib.hid hF
      have HI := Lib.hid (hi2 (fun _ => 0))
      have HB2 := Lib.hid hb2
      clear hF hi2 hb2
      go_wp2
      go_ret2
      have hs1 := HB1.out.size
      have hs2 := HB2.out.size
      have hA := HAA.out
      have hF := HFF.out
      have hF2 := HI.out.lt
      have hb3 : Below w2.heap.size w2 (w2.alloc (.cells #[.slice (some ⟨A, 0, none⟩) len c, .int .i64 0, .pointer (some ⟨F, 0, none⟩), .bool false, .slice none 0 0] 106)) := (Below.refl _ _).alloc (Nat.le_refl _) _
      refine ⟨w2.heap.size, fun k => k = w2.heap.size ∨ k = F ∨ k = A, rfl, ⟨F, A, c, .slice none 0 0, heap_alloc_new w2 _, HI.out.on hb3, World.ownsRow_nil _ _ _ _, (HCC.out.keep (fun _ => HB2.out.block A hA.2)).keep (fun hk => hb3.block A hk), ⟨Nat.zero_le _, hl⟩, ⟨by omega, by omega, by omega, fun k hk => by simp [Value.ownBlock] at hk⟩, ⟨.inl rfl, .inr (.inl rfl), .inr (.inr rfl), fun k hk => by simp [Value.ownBlock] at hk⟩, fun k hk => by simp; omega⟩, fun k hk => by omega, ?_⟩
      exact (HB1.out.trans (HB2.out.mono hs1)).alloc (by omega) _
end Go.Proofs.Ytkbccccjjlkgbaa
