/- Layer 10: Load and Store. -/
import Derived.Test.YtkbccccjjlkgbaaRamGo2
namespace Go.Proofs.Ytkbccccjjlkgbaa
open Go.RowKit
set_option linter.unusedVariables false

theorem numTo_same {f h : Nat → Int} : ∀ k, (∀ i, i < k → f i = h i) → numTo f k = numTo h k
  | 0, _ => rfl
  | k + 1, e => by rw [numTo, numTo, numTo_same k (fun i hi => e i (by omega)), e k (by omega)]

/-- The place of an address that is there. -/
theorem at_of {K : Nat} {addr n : Int} (h : hasB K addr n = true) : ∃ a : Nat, addr = 2147483648 + (a : Int) ∧ n + a ≤ 64 * K ∧ 1 ≤ n ∧ a < 64 * K := by
  obtain ⟨h0, h1, h2⟩ := hasB_yes h
  exact ⟨(addr - 2147483648).toNat, by omega, by omega, h0, by omega⟩
/-- An access that is not odd lies in one page. -/
theorem even_fit {a n : Nat} {addr : Int} (ha : addr = 2147483648 + (a : Int)) (hn : n = 1 ∨ n = 2 ∨ n = 4) (h : addr % (n : Int) = 0) : a % 64 + n ≤ 64 := by
  rcases hn with rfl | rfl | rfl <;> omega

set_option maxHeartbeats 400000 in
theorem load_nil (addr n : Int) (w : World) :
    Calls Try.prog 40 #[.pointer none, .int .u32 addr, .int .i64 n] w fun e w' => e = .returned (.tuple #[.int .u32 0, .int .i64 2]) ∧ w' = w := by
  go_enter Try.func40, Try.ntmps40
  go_wp2_with (go_at_call 65; refine (access_nil _ _ _).mono ?_; rintro e w' ⟨rfl, hw⟩; have hw := hw.symm; subst hw)
  go_ret2
  exact ⟨rfl, rfl⟩

set_option maxHeartbeats 400000 in
theorem load_no (R P K : Nat) (addr n : Int) (w : World) (hK : K ≤ 1024) (hc : w.cell? ⟨R, 0, none⟩ = some (.slice (some ⟨P, 0, none⟩) K K)) (h0 : 0 ≤ addr) (h1 : addr < 4294967296) (hz : askZ K addr n ≠ 0) :
    Calls Try.prog 40 #[.pointer (some ⟨R, 0, none⟩), .int .u32 addr, .int .i64 n] w fun e w' => e = .returned (.tuple #[.int .u32 0, .int .i64 (askZ K addr n)]) ∧ w' = w := by
  have HA : Hid (∀ W : World, W.cell? ⟨R, 0, none⟩ = some (.slice (some ⟨P, 0, none⟩) K K) → Calls Try.prog 65 #[.pointer (some ⟨R, 0, none⟩), .int .u32 addr, .int .i64 n] W fun e w' => e = .returned (.int .i64 (askZ K addr n)) ∧ w' = W) := fun W hW => access_any R P K addr n W hK hW h0 h1
  have hb : (askZ K addr n != 0) = true := bne_iff_ne.2 hz
  clear hz
  generalize askZ K addr n = z at *
  go_enter Try.func40, Try.ntmps40
  go_wp2_with (go_at_call 65; refine (HA.out _ hc).mono ?_; rintro e w' ⟨rfl, hw⟩; have hw := hw.symm; subst hw)
  go_ret2
  exact ⟨rfl, rfl⟩

set_option maxHeartbeats 800000 in
theorem load_yes (R P K a n : Nat) (addr : Int) (b : Nat → Int) (wa : Nat → Bool) (g : Nat → Int) (w : World) (hK : K ≤ 1024) (h : IsRam w R P K b wa g) (hb : BdB K b) (ha : addr = 2147483648 + (a : Int)) (hn : sizeB n = true) (ho : addr % (n : Int) = 0) (hh : hasB K addr n = true) :
    Calls Try.prog 40 #[.pointer (some ⟨R, 0, none⟩), .int .u32 addr, .int .i64 n] w fun e w' => e = .returned (.tuple #[.int .u32 (numTo (fun i => b (a + i)) n), .int .i64 0]) ∧ Q w w' := by
  have h3 := hasB_yes hh
  have hn' : n = 1 ∨ n = 2 ∨ n = 4 := by have := sizeB_yes hn; omega
  have hfit := even_fit ha hn' ho
  have HI : Hid (IsRam w R P K b wa g) := h
  have HA : Hid (∀ W : World, IsRam W R P K b wa g → Calls Try.prog 65 #[.pointer (some ⟨R, 0, none⟩), .int .u32 addr, .int .i64 n] W fun e w' => e = .returned (.int .i64 0) ∧ w' = W) := fun W hW => by
    have := access_any R P K addr n W hK hW.ptr (by omega) (by omega)
    rwa [askZ_ok hn ho hh] at this
  have HP : Hid (∀ W : World, IsRam W R P K b wa g → Calls Try.prog 67 #[.pointer (some ⟨R, 0, none⟩), .int .u32 addr, .int .i64 n] W fun e w' => e = .returned (.slice (some ⟨P, a / 64 * 66 + a % 64, none⟩) n n) ∧ Q W w') := fun W hW =>
    piece_any R P K a n n addr W hK hW.ptr ha (by omega) (by omega) (by omega) (by omega)
  have HN : Hid (∀ W, Q w W → Calls Try.prog 66 #[.slice (some ⟨P, a / 64 * 66 + a % 64, none⟩) n n] W fun e w' => e = .returned (.tuple #[.int .u32 (numTo (fun i => b (a + i)) n), .int .i64 0]) ∧ w' = W) := fun W hq =>
    number_yes (fun i => b (a + i)) P _ n n W hn (fun i hi => hb _ (by omega)) (fun i hi => by
      have := (h.q hq).byte (i := a + i) (by omega)
      rwa [show (a + i) / 64 * 66 + (a + i) % 64 = a / 64 * 66 + a % 64 + i from by omega] at this)
  clear h hb h3 hh ho hfit hn hn' ha
  go_enter Try.func40, Try.ntmps40
  go_wp2_with (go_at_call 65; refine (HA.out _ HI.out).mono ?_; rintro e w' ⟨rfl, hw⟩; have hw := hw.symm; subst hw)
  refine (HP.out _ HI.out).mono ?_
  rintro e w1 ⟨rfl, hq⟩
  have HQ := Lib.hid hq
  clear hq
  go_wp2_with fail
  refine (HN.out _ HQ.out).mono ?_
  rintro e w2 ⟨rfl, hw⟩; subst hw
  go_wp2
  go_ret2
  exact ⟨rfl, HQ.out⟩

set_option maxHeartbeats 400000 in
theorem store_nil (addr n x : Int) (w : World) :
    Calls Try.prog 46 #[.pointer none, .int .u32 addr, .int .i64 n, .int .u32 x] w fun e w' => e = .returned (.tuple #[.bool false, .int .i64 2]) ∧ w' = w := by
  go_enter Try.func46, Try.ntmps46
  go_wp2_with (go_at_call 65; refine (access_nil _ _ _).mono ?_; rintro e w' ⟨rfl, hw⟩; have hw := hw.symm; subst hw)
  go_ret2
  exact ⟨rfl, rfl⟩

set_option maxHeartbeats 400000 in
theorem store_no (R P K : Nat) (addr n x : Int) (w : World) (hK : K ≤ 1024) (hc : w.cell? ⟨R, 0, none⟩ = some (.slice (some ⟨P, 0, none⟩) K K)) (h0 : 0 ≤ addr) (h1 : addr < 4294967296) (hz : askZ K addr n ≠ 0) :
    Calls Try.prog 46 #[.pointer (some ⟨R, 0, none⟩), .int .u32 addr, .int .i64 n, .int .u32 x] w fun e w' => e = .returned (.tuple #[.bool false, .int .i64 (askZ K addr n)]) ∧ w' = w := by
  have HA : Hid (∀ W : World, W.cell? ⟨R, 0, none⟩ = some (.slice (some ⟨P, 0, none⟩) K K) → Calls Try.prog 65 #[.pointer (some ⟨R, 0, none⟩), .int .u32 addr, .int .i64 n] W fun e w' => e = .returned (.int .i64 (askZ K addr n)) ∧ w' = W) := fun W hW => access_any R P K addr n W hK hW h0 h1
  have hb : (askZ K addr n != 0) = true := bne_iff_ne.2 hz
  clear hz
  generalize askZ K addr n = z at *
  go_enter Try.func46, Try.ntmps46
  go_wp2_with (go_at_call 65; refine (HA.out _ hc).mono ?_; rintro e w' ⟨rfl, hw⟩; have hw := hw.symm; subst hw)
  go_ret2
  exact ⟨rfl, rfl⟩

theorem bytesTo_range (x : Int) (n : Nat) : (bytesTo x n).map (Value.int .u8) = (List.range n).map fun i => Value.int .u8 (byteAt x i) := by
  unfold bytesTo; rw [List.map_map]; rfl

set_option maxHeartbeats 1600000 in
theorem store_yes (R P K a n : Nat) (addr x : Int) (b : Nat → Int) (wa : Nat → Bool) (g : Nat → Int) (m : Int) (w : World) (hK : K ≤ 1024) (h : IsRam w R P K b wa g) (hg : BdG K g m) (hm : m ≤ 1000000) (ha : addr = 2147483648 + (a : Int)) (hn : sizeB n = true) (ho : addr % (n : Int) = 0) (hh : hasB K addr n = true) (x0 : 0 ≤ x) (x1 : x < 4294967296) :
    Calls Try.prog 46 #[.pointer (some ⟨R, 0, none⟩), .int .u32 addr, .int .i64 n, .int .u32 x] w fun e w' => e = .returned (.tuple #[.bool (wa (a / 64)), .int .i64 0]) ∧ IsRam w' R P K (bput b a n (byteAt x)) (wHit wa (a / 64)) (gHit wa g (a / 64)) ∧ Bar P w w' := by
  have h3 := hasB_yes hh
  have hn' : n = 1 ∨ n = 2 ∨ n = 4 := by have := sizeB_yes hn; omega
  have hfit := even_fit ha hn' ho
  have HI : Hid (IsRam w R P K b wa g) := h
  have HA : Hid (∀ W : World, IsRam W R P K b wa g → Calls Try.prog 65 #[.pointer (some ⟨R, 0, none⟩), .int .u32 addr, .int .i64 n] W fun e w' => e = .returned (.int .i64 0) ∧ w' = W) := fun W hW => by
    have := access_any R P K addr n W hK hW.ptr (by omega) (by omega)
    rwa [askZ_ok hn ho hh] at this
  have HB : Hid (∀ W : World, Calls Try.prog 69 #[.int .u32 x, .int .i64 n] W fun e w' => ∃ v, e = .returned (.tuple #[v, .int .i64 0]) ∧ w'.ownsRow W.heap.size 5 1 v n ((bytesTo x n).map (Value.int .u8)) ∧ Below W.heap.size W w') := fun W => bytes_yes x n W x0 x1 hn
  have HP : Hid (∀ W : World, IsRam W R P K b wa g → Calls Try.prog 67 #[.pointer (some ⟨R, 0, none⟩), .int .u32 addr, .int .i64 n] W fun e w' => e = .returned (.slice (some ⟨P, a / 64 * 66 + a % 64, none⟩) n n) ∧ Q W w') := fun W hW =>
    piece_any R P K a n n addr W hK hW.ptr ha (by omega) (by omega) (by omega) (by omega)
  have HPG : Hid (∀ W : World, W.cell? ⟨R, 0, none⟩ = some (.slice (some ⟨P, 0, none⟩) K K) → Calls Try.prog 19 #[.pointer (some ⟨R, 0, none⟩), .int .u32 addr] W fun e w' => e = .returned (.int .i64 ((a / 64 : Nat) : Int)) ∧ w' = W) := fun W hW => by
    have := page_any R P K addr W hK hW (by omega) (by omega)
    rwa [pageZ_yes (hasB_t (by omega)), show (addr - 2147483648) / 64 = ((a / 64 : Nat) : Int) from by omega] at this
  have HH : Hid (∀ W : World, IsRam W R P K (bput b a n (byteAt x)) wa g → Calls Try.prog 70 #[.pointer (some ⟨R, 0, none⟩), .int .i64 ((a / 64 : Nat) : Int)] W fun e w' => e = .returned (.bool (wa (a / 64))) ∧ IsRam w' R P K (bput b a n (byteAt x)) (wHit wa (a / 64)) (gHit wa g (a / 64)) ∧ Bar P W w') := fun W hW =>
    hit_any R P K (a / 64) (bput b a n (byteAt x)) wa g m W hK hW (by omega) hg hm
  have HFit : Hid (a % 64 + n ≤ 64 ∧ a < 64 * K ∧ 1 ≤ n ∧ n ≤ 4) := ⟨hfit, by omega, by omega, by omega⟩
  clear h h3 hh ho hfit hn hn' hg ha
  go_enter Try.func46, Try.ntmps46
  go_wp2_with (go_at_call 65; refine (HA.out _ HI.out).mono ?_; rintro e w' ⟨rfl, hw⟩; have hw := hw.symm; subst hw)
  refine (HB.out _).mono ?_
  rintro e w1 ⟨v, rfl, hown, hb1⟩
  have HI1 : Hid (IsRam w1 R P K b wa g) := HI.out.on hb1
  have HB1 := Lib.hid hb1
  have HOWN := Lib.hid hown
  obtain ⟨gb, cap, rfl⟩ := owned_some hown (by have := HFit.out; omega)
  clear hown hb1
  go_wp2_with fail
  refine (HP.out _ HI1.out).mono ?_
  rintro e w2 ⟨rfl, hq⟩
  have HI2 : Hid (IsRam w2 R P K b wa g) := HI1.out.q hq
  have HQ2 := Lib.hid hq
  clear hq
  obtain ⟨cs, hP, hC⟩ : ∃ cs : Array Value, w2.heap[P]? = some (.cells cs 97 (0, 0)) ∧ PageC cs K b wa g := by
    obtain ⟨_, _, cs, hP, hC⟩ := HI2.out
    exact ⟨cs, hP, hC⟩
  have HPP := Lib.hid hP
  have HC := Lib.hid hC
  clear hP hC
  have hcp : (Builtin.copy_ #[30, 30] 3 #[.slice (some ⟨P, a / 64 * 66 + a % 64, none⟩) n n, .slice (some ⟨gb, 0, none⟩) n cap]).run Try.prog w2 = .ok (goInt (n : Nat)) (w2.setRow P (splice cs.toList (a / 64 * 66 + a % 64) ((List.range n).map fun i => Value.int .u8 (byteAt x i))).toArray) := by
    have h := run_copy_row (P := Try.prog) w2 30 30 3 5 P (a / 64 * 66 + a % 64) n n ⟨gb, 0, none⟩ n cap cs _ ((List.range n).map fun i => Value.int .u8 (byteAt x i)) Try.underlying30 (by kernel_rfl) HPP.out (by simp)
      (fun j u hj => by
        have hj1 : j < n := by
          have := (List.getElem?_eq_some_iff.1 hj).1
          simpa using this
        rw [Addr.add_lit, Nat.zero_add]
        refine cell_q HQ2.out ?_
        have := HOWN.out.cellAt j (by omega)
        rw [bytesTo_range, hj] at this
        exact this)
      (by
        have h1 := HC.out.1
        have h2 := HFit.out
        simp only [List.length_map, List.length_range]; omega)
      (fun u hu => by
        obtain ⟨i, _, rfl⟩ := List.mem_map.1 hu
        rfl)
    simp only [List.length_map, List.length_range] at h
    rw [h]
    unfold splice
    simp only [List.length_map, List.length_range, List.append_assoc]
  have HI3 : Hid (IsRam (w2.setRow P (splice cs.toList (a / 64 * 66 + a % 64) ((List.range n).map fun i => Value.int .u8 (byteAt x i))).toArray) R P K (bput b a n (byteAt x)) wa g) := by
    obtain ⟨hne, hR, _⟩ := HI2.out
    exact ⟨hne, by rw [setRow_other _ _ _ _ hne]; exact hR, _, setRow_heap _ _ _ _ _ _ HPP.out, HC.out.splice a n (byteAt x) HFit.out.1 HFit.out.2.1⟩
  have HB3 : Hid (Bar P w (w2.setRow P (splice cs.toList (a / 64 * 66 + a % 64) ((List.range n).map fun i => Value.int .u8 (byteAt x i))).toArray)) :=
    ((Bar.of P HB1.out).trans (Bar.of P (HQ2.out.below _))).trans (Bar.setRow _ _ _)
  generalize w2.setRow P (splice cs.toList (a / 64 * 66 + a % 64) ((List.range n).map fun i => Value.int .u8 (byteAt x i))).toArray = w3 at *
  go_wp2_with fail
  refine (HPG.out _ HI3.out.ptr).mono ?_
  rintro e w' ⟨rfl, hw⟩; subst hw
  go_wp2_with fail
  refine (HH.out _ HI3.out).mono ?_
  rintro e w4 ⟨rfl, hi, hbar⟩
  have HI4 := Lib.hid hi
  have HB4 := Lib.hid hbar
  clear hi hbar
  go_wp2
  go_ret2
  exact ⟨rfl, HI4.out, HB3.out.trans HB4.out⟩
end Go.Proofs.Ytkbccccjjlkgbaa
