/- Layer 10: Fill and Bytes. -/
import Derived.Test.YtcigceaadkjenaaDoorRamGo3
namespace Go.Proofs.YtcigceaadkjenaaDoor
open Go.RowKit
set_option linter.unusedVariables false
set_option maxRecDepth 100000

set_option maxHeartbeats 400000 in
theorem fill_nil (addr : Int) (v : Option Addr) (len cap : Nat) (w : World) :
    Calls Tryd.prog 30 #[.pointer none, .int .u32 addr, .slice v len cap] w fun e w' => e = .returned (.int .i64 2) ∧ w' = w := by
  go_enter Tryd.func30, Tryd.ntmps30
  go_wp2
  go_ret
  exact ⟨rfl, rfl⟩

set_option maxHeartbeats 400000 in
theorem fill_none (R : Nat) (addr : Int) (v : Option Addr) (cap : Nat) (w : World) :
    Calls Tryd.prog 30 #[.pointer (some ⟨R, 0, none⟩), .int .u32 addr, .slice v 0 cap] w fun e w' => e = .returned (.int .i64 0) ∧ w' = w := by
  go_enter Tryd.func30, Tryd.ntmps30
  go_wp2
  go_loopw [1, 2] (fun t1 t2 wr => t2 = .slice v 0 cap ∧ wr = w) (fun _ _ _ => 0)
  case atStart => exact ⟨rfl, rfl⟩
  case round =>
    obtain ⟨rfl, hw⟩ := hrel
    have hw := hw.symm
    subst hw
    go_wp2
    go_ret
    exact ⟨rfl, rfl⟩

set_option maxHeartbeats 400000 in
theorem fill_no (R P K : Nat) (addr : Int) (v : Option Addr) (len cap : Nat) (w : World) (hK : K ≤ 1024) (hc : w.cell? ⟨R, 0, none⟩ = some (.slice (some ⟨P, 0, none⟩) K K)) (h0 : 0 ≤ addr) (h1 : addr < 4294967296) (hl : 1 ≤ len) (hm : len ≤ maxLen) (hh : hasB K addr len = false) :
    Calls Tryd.prog 30 #[.pointer (some ⟨R, 0, none⟩), .int .u32 addr, .slice v len cap] w fun e w' => e = .returned (.int .i64 6) ∧ w' = w := by
  unfold maxLen at hm
  have HH : Hid (∀ W : World, W.cell? ⟨R, 0, none⟩ = some (.slice (some ⟨P, 0, none⟩) K K) → Calls Tryd.prog 47 #[.pointer (some ⟨R, 0, none⟩), .int .u32 addr, .int .i64 len] W fun e w' => e = .returned (.bool false) ∧ w' = W) := fun W hW => by
    have := has_any R P K addr len W hK hW h0 h1
    rwa [hh] at this
  clear hh
  go_enter Tryd.func30, Tryd.ntmps30
  go_wp2_with (go_at_call 47; refine (HH.out _ hc).mono ?_; rintro e w' ⟨rfl, hw⟩; have hw := hw.symm; subst hw)
  go_ret
  exact ⟨rfl, rfl⟩

set_option maxHeartbeats 1600000 in
theorem fill_yes (R P K a : Nat) (addr : Int) (bb bo len cap : Nat) (f : Nat → Int) (b : Nat → Int) (wa : Nat → Bool) (g : Nat → Int) (w : World) (hK : K ≤ 1024) (h : IsRam w R P K b wa g) (ha : addr = 2147483648 + (a : Int)) (hl : 1 ≤ len) (hlc : len ≤ cap) (hfit : a + len ≤ 64 * K) (hne : bb ≠ P)
    (hsrc : ∀ i, i < len → w.cell? ⟨bb, bo + i, none⟩ = some (.int .u8 (f i))) :
    Calls Tryd.prog 30 #[.pointer (some ⟨R, 0, none⟩), .int .u32 addr, .slice (some ⟨bb, bo, none⟩) len cap] w fun e w' => e = .returned (.int .i64 0) ∧ IsRam w' R P K (bput b a len f) wa g ∧ Bar P w w' := by
  have HH : Hid (∀ W : World, W.cell? ⟨R, 0, none⟩ = some (.slice (some ⟨P, 0, none⟩) K K) → Calls Tryd.prog 47 #[.pointer (some ⟨R, 0, none⟩), .int .u32 addr, .int .i64 len] W fun e w' => e = .returned (.bool true) ∧ w' = W) := fun W hW => by
    have := has_any R P K addr len W hK hW (by omega) (by omega)
    rwa [hasB_t (by omega)] at this
  have hc := h.ptr
  have HI : Hid (IsRam w R P K b wa g) := h
  have HS : Hid (∀ i, i < len → w.cell? ⟨bb, bo + i, none⟩ = some (.int .u8 (f i))) := hsrc
  have HA : Hid (addr = 2147483648 + (a : Int)) := ha
  have h0 : 0 ≤ addr := by omega
  have h1 : addr < 2147549184 := by omega
  have HF : Hid (a + len ≤ 64 * K) := hfit
  have HN : Hid (bb ≠ P) := hne
  have hl1 : len ≤ 65536 := by omega
  have HLC : Hid (len ≤ cap) := hlc
  clear h hsrc ha hfit hne hlc
  go_enter Tryd.func30, Tryd.ntmps30
  go_wp2_with (go_at_call 47; refine (HH.out _ hc).mono ?_; rintro e w' ⟨rfl, hw⟩; have hw := hw.symm; subst hw)
  go_loopw [1, 2] (fun t1 t2 wr => ∃ k : Nat, ∃ x : Option Addr, k ≤ len ∧ t1 = .int .u32 (addr + k) ∧ t2 = .slice x (len - k) (cap - k) ∧ (k < len → x = some ⟨bb, bo + k, none⟩) ∧ IsRam wr R P K (bput b a k f) wa g ∧ Bar P w wr) (fun t1 _ _ => (addr + len - intOf t1).toNat)
  case atStart => exact ⟨0, some ⟨bb, bo, none⟩, Nat.zero_le _, by go_num, by simp, fun _ => by simp, by rw [bput_none]; exact HI.out, Bar.refl _ _⟩
  case round =>
    obtain ⟨k, x, hk, rfl, rfl, hx, hi, hbar⟩ := hrel
    have HI1 := Lib.hid hi
    have HB1 := Lib.hid hbar
    clear hi hbar
    by_cases hlt : k < len
    · obtain rfl := hx hlt
      clear hx
      obtain ⟨q, hq⟩ : ∃ q, q = min ((a + k) % 64 + (len - k)) 64 - (a + k) % 64 := ⟨_, rfl⟩
      have HQ := Lib.hid hq
      have hq1 : 1 ≤ q := by omega
      have hq2 : k + q ≤ len := by omega
      have hq3 : (a + k) % 64 + q ≤ 64 := by omega
      clear hq
      have HP : Hid (∀ W : World, W.cell? ⟨R, 0, none⟩ = some (.slice (some ⟨P, 0, none⟩) K K) → Calls Tryd.prog 48 #[.pointer (some ⟨R, 0, none⟩), .int .u32 (addr + (k : Int)), .int .i64 ((len : Int) - (k : Int))] W fun e w' => e = .returned (.slice (some ⟨P, (a + k) / 64 * 66 + (a + k) % 64, none⟩) q q) ∧ Q W w') := fun W hW => by
        have := piece_any R P K (a + k) (len - k) q (addr + (k : Int)) W hK hW (by have := HA.out; omega) (by have := HF.out; omega) (by omega) (by omega) HQ.out
        rwa [show ((len - k : Nat) : Int) = (len : Int) - (k : Int) from by omega] at this
      have HQ3 := Lib.hid hq3
      clear hq3
      have e1 : ((len - k : Nat) : Int) = (len : Int) - (k : Int) := by omega
      go_wp2_with fail
      refine (HP.out _ HI1.out.ptr).mono ?_
      rintro e w2 ⟨rfl, hq⟩
      have HI2 : Hid (IsRam w2 R P K (bput b a k f) wa g) := HI1.out.q hq
      have HB2 : Hid (Bar P w w2) := HB1.out.trans (Bar.of P (hq.below _))
      clear hq
      obtain ⟨cs, hP, hC⟩ : ∃ cs : Array Value, w2.heap[P]? = some (.cells cs 67 (0, 0)) ∧ PageC cs K (bput b a k f) wa g := by
        obtain ⟨_, _, cs, hP, hC⟩ := HI2.out
        exact ⟨cs, hP, hC⟩
      have HPP := Lib.hid hP
      have HC := Lib.hid hC
      clear hP hC
      have hcp : (Builtin.copy_ #[30, 30] 3 #[.slice (some ⟨P, (a + k) / 64 * 66 + (a + k) % 64, none⟩) q q, .slice (some ⟨bb, bo + k, none⟩) (len - k) (cap - k)]).run Tryd.prog w2 = .ok (.int .i64 (q : Int)) (w2.setRow P (splice cs.toList ((a + k) / 64 * 66 + (a + k) % 64) ((List.range q).map fun i => Value.int .u8 (f (k + i)))).toArray) := by
        have h := run_copy_row (P := Tryd.prog) w2 30 30 3 5 P ((a + k) / 64 * 66 + (a + k) % 64) q q ⟨bb, bo + k, none⟩ (len - k) (cap - k) cs _ ((List.range q).map fun i => Value.int .u8 (f (k + i))) Tryd.underlying30 (by kernel_rfl) HPP.out (by simp only [List.length_map, List.length_range]; show q = min (len - k) q; omega)
          (fun j u hj => by
            have hj1 : j < q := by
              have := (List.getElem?_eq_some_iff.1 hj).1
              simpa using this
            rw [Addr.add_lit]
            refine HB2.out.cell HN.out ?_
            rw [List.getElem?_map, List.getElem?_range hj1] at hj
            have e := Option.some.inj hj
            subst e
            rw [Nat.add_assoc]
            exact HS.out (k + j) (by omega))
          (by
            have h1 := HC.out.1
            have h2 := HF.out
            have h3 := HQ3.out
            simp only [List.length_map, List.length_range]; omega)
          (fun u hu => by
            obtain ⟨i, _, rfl⟩ := List.mem_map.1 hu
            rfl)
        simp only [List.length_map, List.length_range] at h
        rw [h]
        unfold splice
        simp only [List.length_map, List.length_range, List.append_assoc, goInt]
      have HI3 : Hid (IsRam (w2.setRow P (splice cs.toList ((a + k) / 64 * 66 + (a + k) % 64) ((List.range q).map fun i => Value.int .u8 (f (k + i)))).toArray) R P K (bput b a (k + q) f) wa g) := by
        obtain ⟨hne, hR, _⟩ := HI2.out
        have h2 := HF.out
        have hs := HC.out.splice (a + k) q (fun i => f (k + i)) HQ3.out (by omega)
        rw [bput_two] at hs
        exact ⟨hne, by rw [setRow_other _ _ _ _ hne]; exact hR, _, setRow_heap _ _ _ _ _ _ HPP.out, hs⟩
      have HB3 : Hid (Bar P w (w2.setRow P (splice cs.toList ((a + k) / 64 * 66 + (a + k) % 64) ((List.range q).map fun i => Value.int .u8 (f (k + i)))).toArray)) := HB2.out.trans (Bar.setRow _ _ _)
      generalize w2.setRow P (splice cs.toList ((a + k) / 64 * 66 + (a + k) % 64) ((List.range q).map fun i => Value.int .u8 (f (k + i)))).toArray = w3 at *
      have hk2 : (q : Int) ≤ ((len - k : Nat) : Int) := by omega
      go_wp2
      go_roundw
      case rel =>
        have h9 := HLC.out
        refine ⟨k + q, if cap - k = q then some ⟨bb, bo + k, none⟩ else some ⟨bb, bo + k + q, none⟩, hq2, by go_num, by rw [Nat.sub_sub, Nat.sub_sub], fun hlt2 => ?_, HI3.out, HB3.out⟩
        rw [if_neg (by omega), Nat.add_assoc]
      case measure => simp [intOf]; omega
    · obtain rfl : k = len := by omega
      clear hx
      go_wp2
      go_ret
      exact ⟨rfl, HI1.out, HB1.out⟩

set_option maxHeartbeats 400000 in
theorem bytes_nil (w : World) :
    Calls Tryd.prog 17 #[.pointer none] w fun e w' => e = .returned (.slice none 0 0) ∧ w' = w := by
  go_enter Tryd.func17, Tryd.ntmps17
  go_wp2
  go_ret
  exact ⟨rfl, rfl⟩

set_option maxHeartbeats 1600000 in
theorem bytes_any (R P K : Nat) (b : Nat → Int) (wa : Nat → Bool) (g : Nat → Int) (w : World) (h1 : 1 ≤ K) (hK : K ≤ 1024) (h : IsRam w R P K b wa g) :
    Calls Tryd.prog 17 #[.pointer (some ⟨R, 0, none⟩)] w fun e w' => ∃ B, e = .returned (.slice (some ⟨B, 0, none⟩) (64 * K) (64 * K)) ∧ w.heap.size ≤ B ∧ RowB w' B (64 * K) b ∧ Below w.heap.size w w' := by
  have hc := h.ptr
  have HI : Hid (IsRam w R P K b wa g) := h
  clear h
  have hmk : ∀ w : World, (Instr.makeSlice 30 (.int .i64 (64 * (K : Int))) (.int .i64 (64 * (K : Int)))).run Tryd.prog w = .ok (.slice (some ⟨w.heap.size, 0, none⟩) (64 * K) (64 * K)) (w.alloc (.cells (madeCells (Value.int .u8 0).cells (64 * K)) 5)) := fun w => by
    obtain ⟨i, hi, hz0, hz1, hz2⟩ := info_parts Tryd.info5
    have := run_make (P := Tryd.prog) w 30 5 i (.int .u8 0) Tryd.underlying30 hi hz0 .i64 .i64 (64 * (K : Int)) (64 * (K : Int)) (by omega) (Int.le_refl _) (by rw [hz2]; omega) (by omega)
    rw [hz1, show (64 * (K : Int)).toNat = 64 * K from by omega, Nat.mul_one] at this
    exact this
  obtain ⟨c0, hc0⟩ : ∃ c, c = madeCells (Value.int .u8 0).cells (64 * K) := ⟨_, rfl⟩
  have hs0 : c0.size = 64 * K := by rw [hc0]; exact size_madeCells _ _
  rw [← hc0] at hmk
  clear hc0
  have HS0 := Lib.hid hs0
  clear hs0
  have hb0 : Below w.heap.size w (w.alloc (.cells c0 5)) := (Below.refl _ _).alloc (Nat.le_refl _) _
  have HI0 : Hid (IsRam (w.alloc (.cells c0 5)) R P K b wa g) := HI.out.on hb0
  have hc0 := HI0.out.ptr
  clear hb0
  go_enter Tryd.func17, Tryd.ntmps17
  go_wp2_with (go_at_call 29; refine (size_any _ _ _ _ hK hc).mono ?_; rintro e w' ⟨rfl, hw⟩; have hw := hw.symm; subst hw)
  have hB0 : (w.alloc (.cells c0 5)).heap[w.heap.size]? = some (.cells c0.toList.toArray 5 (0, 0)) := by simpa using heap_alloc_new w (.cells c0 5)
  have hb0 : Below w.heap.size w (w.alloc (.cells c0 5)) := (Below.refl _ _).alloc (Nat.le_refl _) _
  have HB0 := Lib.hid hB0
  have HBE0 := Lib.hid hb0
  clear hB0 hb0 hmk hc0
  generalize (w.alloc (.cells c0 5)) = w1 at *
  obtain ⟨B, hB⟩ : ∃ B, w.heap.size = B := ⟨_, rfl⟩
  have HBB := Lib.hid hB
  rw [hB] at HB0
  simp only [hB]
  clear hB
  go_loopw [15] (fun i wr => ∃ k : Nat, k ≤ K ∧ i = .int .i64 k ∧ (∃ cur : List Value, wr.heap[B]? = some (.cells cur.toArray 5 (0, 0)) ∧ cur.length = 64 * K ∧ ∀ i, i < 64 * k → cur[i]? = some (.int .u8 (b i))) ∧ Below w.heap.size w wr) (fun i _ => K - (intOf i).toNat)
  case atStart => exact ⟨0, Nat.zero_le _, rfl, ⟨c0.toList, HB0.out, by simpa using HS0.out, fun i hi => absurd hi (by omega)⟩, HBE0.out⟩
  case round =>
    obtain ⟨k, hk, rfl, ⟨cur, hcur, hlen, hcells⟩, hb⟩ := hrel
    have HCUR := Lib.hid hcur
    have HLEN := Lib.hid hlen
    have HCELLS := Lib.hid hcells
    have HBE := Lib.hid hb
    clear hcur hlen hcells hb
    by_cases hlt : k < K
    · have HI1 : Hid (IsRam wr R P K b wa g) := HI.out.on HBE.out
      have hcr := HI1.out.ptr
      have hi : (k : Int) < K := by omega
      have hsl : ∀ w : World, (Instr.sliceAt 30 (.slice (some ⟨B, 0, none⟩) (64 * K) (64 * K)) (some (.int .i64 ((k : Int) * 64))) none none).run Tryd.prog w = .ok (.slice (some ⟨B, k * 64, none⟩) (64 * K - k * 64) (64 * K - k * 64)) w := fun w => by
        rw [run_sliceAt_slice w _ _ _ _ _ Tryd.underlying30, run_slice_l w _ _ _ _ Tryd.underlying30 .i64 _ (by omega) (by omega)]
        rw [show (sizeOf (Tryd.prog.elem 30)).run Tryd.prog w = .ok 1 w from by kernel_rfl]
        simp only [Result.andThen, sliced]
        rw [show ((k : Int) * 64).toNat = k * 64 from by omega, if_neg (by omega)]
        simp [Addr.add_lit]
      have hs0 := slice0_run P (k * 66)
      have hcp : (Builtin.copy_ #[30, 30] 3 #[.slice (some ⟨B, k * 64, none⟩) (64 * K - k * 64) (64 * K - k * 64), .slice (some ⟨P, k * 66, none⟩) 64 64]).run Tryd.prog wr.drew = .ok (.int .i64 64) (wr.drew.setRow B (splice cur (k * 64) ((List.range 64).map fun i => Value.int .u8 (b (64 * k + i)))).toArray) := by
        have h := run_copy_row (P := Tryd.prog) wr.drew 30 30 3 5 B (k * 64) (64 * K - k * 64) (64 * K - k * 64) ⟨P, k * 66, none⟩ 64 64 cur.toArray _ ((List.range 64).map fun i => Value.int .u8 (b (64 * k + i))) Tryd.underlying30 (by kernel_rfl) HCUR.out (by simp only [List.length_map, List.length_range]; show 64 = min 64 _; omega)
          (fun j u hj => by
            have hj1 : j < 64 := by
              have := (List.getElem?_eq_some_iff.1 hj).1
              simpa using this
            rw [List.getElem?_map, List.getElem?_range hj1] at hj
            have e := Option.some.inj hj
            subst e
            have := HI1.out.byte (i := 64 * k + j) (by omega)
            rw [show (64 * k + j) / 64 * 66 + (64 * k + j) % 64 = k * 66 + j from by omega] at this
            rw [Addr.add_lit]
            exact this)
          (by
            have h2 := HLEN.out
            simp only [List.length_map, List.length_range, List.size_toArray]; omega)
          (fun u hu => by
            obtain ⟨i, _, rfl⟩ := List.mem_map.1 hu
            rfl)
        simp only [List.length_map, List.length_range] at h
        rw [h]
        unfold splice
        simp only [List.length_map, List.length_range, List.append_assoc, goInt]
        rfl
      have HNEW : Hid (∃ cur' : List Value, (wr.drew.setRow B (splice cur (k * 64) ((List.range 64).map fun i => Value.int .u8 (b (64 * k + i)))).toArray).heap[B]? = some (.cells cur'.toArray 5 (0, 0)) ∧ cur'.length = 64 * K ∧ ∀ i, i < 64 * (k + 1) → cur'[i]? = some (.int .u8 (b i))) := by
        have h2 := HLEN.out
        have hfit : k * 64 + ((List.range 64).map fun i => Value.int .u8 (b (64 * k + i))).length ≤ cur.length := by simp only [List.length_map, List.length_range]; omega
        refine ⟨_, setRow_heap _ _ _ _ _ _ HCUR.out, by rw [length_splice _ _ _ hfit]; exact h2, fun i hi => ?_⟩
        rw [splice_get _ _ _ hfit]
        simp only [List.length_map, List.length_range]
        by_cases c : k * 64 ≤ i
        · rw [if_pos (by omega), List.getElem?_map, List.getElem?_range (by omega)]
          simp only [Option.map_some]
          rw [show 64 * k + (i - k * 64) = i from by omega]
        · rw [if_neg (by omega)]; exact HCELLS.out i (by omega)
      have HBE2 : Hid (Below w.heap.size w (wr.drew.setRow B (splice cur (k * 64) ((List.range 64).map fun i => Value.int .u8 (b (64 * k + i)))).toArray)) := below_setRow HBE.out.drew (by have := HBB.out; omega) _
      generalize (wr.drew.setRow B (splice cur (k * 64) ((List.range 64).map fun i => Value.int .u8 (b (64 * k + i)))).toArray) = w5 at *
      go_wp2_with fail
      go_region
      clear hcp
      go_wp2
      go_roundw
      case rel => exact ⟨k + 1, by omega, by go_num, HNEW.out, HBE2.out⟩
      case measure => simp [intOf]; omega
    · obtain rfl : k = K := by omega
      go_wp2
      go_ret
      refine ⟨B, rfl, by have := HBB.out; omega, fun i hi => ?_, HBE.out⟩
      simp [World.cell?, HCUR.out, HCELLS.out i hi]
end Go.Proofs.YtcigceaadkjenaaDoor
