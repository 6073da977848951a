/- My texts BusPlays, bound into one. -/
import Derived.Test.YtkbccccjjlkgbaaB6
/- Layer 14: the walk of BusPlays. (By gen-busplays.py.) -/
namespace Go.Proofs.Ytkbccccjjlkgbaa
open Go.RowKit
set_option linter.unusedVariables false
set_option linter.unusedSimpArgs false
set_option maxRecDepth 100000

namespace busPlays
set_option maxHeartbeats 800000 in
/-- What is not played. -/
theorem no (n : Int) (a : Option Addr) (len cap : Nat) (T Y : Nat → Int) (v : Option Addr) (sl sc : Nat) (w : World) (ha : IsArr w a len cap T Y) (hm2 : sl ≤ maxLen) (h : rightB n = false ∨ 512 < n ∨ 256 < len ∨ ¬ Rises len T ∨ 100 < sl) :
    Calls Try.prog 3 #[.int .i64 n, .slice a len cap, .slice v sl sc] w fun e w' => e = .returned (.bool true) ∧ Below w.heap.size w w' := by
  have HR : Hid (∀ W : World, Calls Try.prog 7 #[.int .i64 n] W fun e w' => e = .returned (.bool (rightB n)) ∧ w' = W) := fun W => right10_any n W
  have hm := ha.1
  cases hr : rightB n
  · rw [hr] at HR
    unfold maxLen at hm hm2
    clear h hr ha
    go_enter Try.func3, Try.ntmps3
    go_wp2_with (go_at_call 7; refine (HR.out _).mono ?_; rintro e w' ⟨rfl, hw⟩; have hw := hw.symm; subst hw)
    refine (awake14_any _).mono ?_
    rintro e w1 ⟨rfl, hb⟩
    go_wp2
    go_ret
    exact ⟨rfl, hb⟩
  · rw [hr] at HR
    by_cases h1 : 512 < n
    · unfold maxLen at hm hm2
      clear h hr ha
      go_enter Try.func3, Try.ntmps3
      go_wp2_with (go_at_call 7; refine (HR.out _).mono ?_; rintro e w' ⟨rfl, hw⟩; have hw := hw.symm; subst hw)
      refine (awake14_any _).mono ?_
      rintro e w1 ⟨rfl, hb⟩
      go_wp2
      go_ret
      exact ⟨rfl, hb⟩
    · by_cases h2 : 256 < len ∨ ¬ Rises len T
      · have HZ : ∃ z : Int, (z != 0) = true ∧ (∀ W, Below w.heap.size w W → Calls Try.prog 8 #[.slice a len cap] W fun e w' => e = .returned (.int .i64 z) ∧ Q W w') := by
          by_cases h3 : 256 < len
          · refine ⟨3, by decide, fun W _ => (rright_long a len cap W hm h3).mono ?_⟩
            rintro e w' ⟨rfl, rfl⟩
            exact ⟨rfl, Q.refl _⟩
          · have hr : ¬ Rises len T := by
              rcases h2 with h | h
              · exact absurd h h3
              · exact h
            exact ⟨1, by decide, fun W hb => rright_form W (by omega) (ha.on hb) hr⟩
        obtain ⟨z, hz, h4⟩ := HZ
        have H4 := Lib.hid (h4 w (Below.refl _ _))
        unfold maxLen at hm hm2
        clear h hr ha h2 h4
        go_enter Try.func3, Try.ntmps3
        go_wp2_with (go_at_call 7; refine (HR.out _).mono ?_; rintro e w' ⟨rfl, hw⟩; have hw := hw.symm; subst hw)
        refine H4.out.mono ?_
        rintro e w1 ⟨rfl, hq⟩
        have HB1 := Lib.hid (hq.below w.heap.size)
        clear hq
        go_wp2_with fail
        refine (awake14_any _).mono ?_
        rintro e w2 ⟨rfl, hb⟩
        have HB2 : Hid (Below w.heap.size w w2) := HB1.out.trans (hb.mono HB1.out.size)
        clear hb
        go_wp2
        go_ret
        exact ⟨rfl, HB2.out⟩
      · have h4 : 100 < sl := by
          rcases h with h | h | h | h | h
          · rw [hr] at h; exact absurd h (by decide)
          · exact absurd h h1
          · exact absurd (.inl h) h2
          · exact absurd (.inr h) h2
          · exact h
        have H4 := Lib.hid (rright_yes w (Nat.le_of_not_lt fun e => h2 (.inl e)) ha (Classical.byContradiction fun e => h2 (.inr e)))
        unfold maxLen at hm hm2
        clear h hr ha h2
        go_enter Try.func3, Try.ntmps3
        go_wp2_with (go_at_call 7; refine (HR.out _).mono ?_; rintro e w' ⟨rfl, hw⟩; have hw := hw.symm; subst hw)
        refine H4.out.mono ?_
        rintro e w1 ⟨rfl, hq⟩
        have HB1 := Lib.hid (hq.below w.heap.size)
        clear hq
        go_wp2_with fail
        refine (awake14_any _).mono ?_
        rintro e w2 ⟨rfl, hb⟩
        have HB2 : Hid (Below w.heap.size w w2) := HB1.out.trans (hb.mono HB1.out.size)
        clear hb
        go_wp2
        go_ret
        exact ⟨rfl, HB2.out⟩

set_option maxHeartbeats 16000000 in
theorem yes (K : Nat) (a : Option Addr) (len cap : Nat) (T Y : Nat → Int) (v : Option Addr) (sl sc : Nat) (F : Nat → Sq) (w : World) (h1 : 1 ≤ K) (hK : K ≤ 8) (ha : IsArr w a len cap T Y) (hl : len ≤ 256) (hr : Rises len T) (hs : sl ≤ 100) (hsp : IsSqs w v sl F) :
    Calls Try.prog 3 #[.int .i64 (64 * (K : Int)), .slice a len cap, .slice v sl sc] w fun e w' => e = .returned (.bool true) ∧ Below w.heap.size w w' := by
  have HR : Hid (∀ W : World, Calls Try.prog 7 #[.int .i64 (64 * (K : Int))] W fun e w' => e = .returned (.bool true) ∧ w' = W) := fun W => by
    have := right10_any (64 * (K : Int)) W
    rwa [rightB_t (by omega)] at this
  have HRT := Lib.hid (rright_yes w hl ha hr)
  have HMD : Hid (∀ W, Below w.heap.size w W → Calls Try.prog 10 #[.int .i64 (64 * (K : Int)), .slice a len cap] W fun e w' => ∃ B R P C A S, e = .returned (.pointer (some ⟨B, 0, none⟩)) ∧ IsBus w' B R P C A K S len T Y BS.new ∧ (∀ k, Fp B R P A S k → W.heap.size ≤ k) ∧ Below W.heap.size W w') := fun W hb => made_any K W h1 (by omega) hl (ha.on hb) hr
  have m30 : ∀ w : World, (Instr.makeSlice 30 (.int .i64 (64 * (K : Int))) (.int .i64 (64 * (K : Int)))).run Try.prog w = .ok (.slice (some ⟨w.heap.size, 0, none⟩) (64 * K) (64 * K)) (w.alloc (.cells (madeCells (Value.int .u8 0).cells (64 * K)) 5)) := fun w => by
    obtain ⟨i, hi, hz0, hz1, hz2⟩ := info_parts Try.info5
    have := run_make (P := Try.prog) w 30 5 i (.int .u8 0) Try.underlying30 hi hz0 .i64 .i64 (64 * (K : Int)) (64 * (K : Int)) (by omega) (Int.le_refl _) (by rw [hz2]; omega) (by omega)
    rw [hz1, show (64 * (K : Int)).toNat = 64 * K from by omega, Nat.mul_one] at this
    exact this
  have HARR : Hid (∀ W, Below w.heap.size w W → IsArr W a len cap T Y) := fun W hb => ha.on hb
  have HBLK : Hid (0 < len → ∀ ad, a = some ad → ad.block < w.heap.size) := fun h0 ad he => by
    obtain ⟨b, off, hb, hc⟩ := ha.at h0
    rw [hb] at he
    cases he
    exact World.block_lt_of_cell? w _ (hc 0 h0).1
  have HSPS := Lib.hid hsp
  have HL256 := Lib.hid hl
  have HK100 := Lib.hid hs
  have HK : Hid (1 ≤ K ∧ K ≤ 1024) := ⟨h1, by omega⟩
  have hn5 : (64 * (K : Int)) ≤ 512 := by omega
  clear ha hr hsp
  go_enter Try.func3, Try.ntmps3
  go_wp2_with (go_at_call 7; refine (HR.out _).mono ?_; rintro e w' ⟨rfl, hw⟩; have hw := hw.symm; subst hw)
  refine HRT.out.mono ?_
  rintro e w0 ⟨rfl, hq⟩
  have HB0 := Lib.hid (hq.below w.heap.size)
  clear hq HRT
  go_wp2_with fail
  refine (HMD.out w0 HB0.out).mono ?_
  rintro e w1 ⟨B, R, P, C, A, S0, rfl, hi, hF, hb⟩
  have HI1 := Lib.hid hi
  have HF : Hid (∀ q, Fp B R P A S0 q → w.heap.size ≤ q) := fun q hq => Nat.le_trans HB0.out.size (hF q hq)
  have HB1 : Hid (Below w.heap.size w w1) := HB0.out.trans (hb.mono HB0.out.size)
  clear hi hF hb HMD HB0
  go_wp2_with fail
  refine wp_region_held_drew (S := fun w' => Below w1.heap.size w1 w') (by kernel_rfl) ((Below.refl w1.heap.size w1).drew) (fun hHeld => ?_)
  refine wpAnyH_take (i := 0) (oi := ?o0_4) (v := ?v0_4) ?ho0_4 (by kernel_rfl) (by kernel_rfl) (by kernel_rfl) ?q0_4 ?y0_4 (by assumption) ?rest0_4
  case ho0_4 => (simp only [List.getElem?_toArray, List.getElem?_cons_succ, List.getElem?_cons_zero]; rfl)
  case q0_4 => exact fun _ _ _ h => h
  case y0_4 => (refine Or.inl ⟨by rfl, ?_⟩; intro w hSw; (try dsimp only at hSw); go_simp; try with_reducible rfl)
  try simp only [Act.put, List.setIfInBounds_toArray, List.set_cons_zero, List.set_cons_succ]
  refine wpAnyH_take (i := 2) (oi := ?o2_4) (v := ?v2_4) ?ho2_4 (by kernel_rfl) (by kernel_rfl) (by kernel_rfl) ?q2_4 ?y2_4 (by assumption) ?rest2_4
  case ho2_4 => (simp only [List.getElem?_toArray, List.getElem?_cons_succ, List.getElem?_cons_zero]; rfl)
  case q2_4 => exact fun _ _ _ h => h
  case y2_4 => (refine Or.inl ⟨by rfl, ?_⟩; intro w hSw; (try dsimp only at hSw); go_simp; try with_reducible rfl)
  try simp only [Act.put, List.setIfInBounds_toArray, List.set_cons_zero, List.set_cons_succ]
  refine wpAnyH_take (i := 3) (oi := ?o3_4) (v := ?v3_4) ?ho3_4 (by kernel_rfl) (by kernel_rfl) (by kernel_rfl) ?q3_4 ?y3_4 (by assumption) ?rest3_4
  case ho3_4 => (simp only [List.getElem?_toArray, List.getElem?_cons_succ, List.getElem?_cons_zero]; rfl)
  case q3_4 => exact fun _ _ _ h => h
  case y3_4 => (refine Or.inl ⟨by rfl, ?_⟩; intro w hSw; (try dsimp only at hSw); go_simp; try with_reducible rfl)
  try simp only [Act.put, List.setIfInBounds_toArray, List.set_cons_zero, List.set_cons_succ]
  refine wpAnyH_each (fuel := 1) [1, 4, 5, 6] (plR w1.heap.size K a len cap) rfl (by kernel_rfl) (fun w1 hb => Below.trans hHeld (hb.mono hHeld.size)) ?stable4 ?step4 ?next4
  case stable4 => exact fun k u w1 w2 hb h => plR_on hb h
  case step4 =>
    intro i hi o ho ev wz hb hc ht hd
    have hsz : w1.heap.size ≤ wz.heap.size := hb.size
    simp only [List.mem_cons, List.not_mem_nil, or_false] at hi
    rcases hi with rfl | rfl | rfl | rfl
    · simp only [List.getElem?_toArray, List.getElem?_cons_succ, List.getElem?_cons_zero, Option.some.injEq] at ho
      subst ho
      have t33 : ev (.tmp 33) = .int .i64 (64 * (K : Int)) := ht 33 (by decide)
      refine does_of (by simp only [execOp, t33, m30, Sem.run_bind, Sem.run_pure, Result.andThen_ok]; rfl) ⟨(Below.refl _ _).alloc (Nat.le_refl _) _, ?_⟩
      exact rz_made hsz
    · simp only [List.getElem?_toArray, List.getElem?_cons_succ, List.getElem?_cons_zero, Option.some.injEq] at ho
      subst ho
      have tf : ev (.func 11) = .func (.func 11) #[] #[] := hc _ (by intro t; simp)
      refine does_call (f := 11) (args := #[]) (w0 := wz) (by go_simp) ?_
      refine (rnew13_any wz).mono ?_
      rintro e w2 ⟨rfl, hb2⟩
      exact ⟨_, rfl, hb2, rfl⟩
    · simp only [List.getElem?_toArray, List.getElem?_cons_succ, List.getElem?_cons_zero, Option.some.injEq] at ho
      subst ho
      have d1 : RZ w1.heap.size (64 * K) (ev (.tmp 34)) wz := hd ⟨1, .data⟩ (by simp) rfl (by simp) 34 rfl
      have t37 : ev (.tmp 37) = maxT := hd ⟨4, .data⟩ (by simp) rfl (by simp) 37 rfl
      have t36 : ev (.tmp 36) = .agg #[.slice a len cap, .int .i64 0, .slice none 0 0, .bool false, .slice none 0 0] := ht 36 (by decide)
      obtain ⟨B1, c1, t34, r4⟩ := id d1
      rw [t34] at d1
      refine does_of (u := bus0 (.slice (some ⟨B1, 0, none⟩) (64 * K) c1) a len cap) (w' := wz) ?_ ⟨Below.refl _ _, _, rfl, d1⟩
      clear d1 r4
      go_simp
    · simp only [List.getElem?_toArray, List.getElem?_cons_succ, List.getElem?_cons_zero, Option.some.injEq] at ho
      subst ho
      refine does_of (u := .pointer (some ⟨wz.heap.size, 0, none⟩)) (w' := wz.alloc (.cells #[.slice none 0 0, .slice none 0 0, .int .i64 0, .slice none 0 0, .bool false, .slice none 0 0, .int .u64 0, .int .u64 0, .bool false, .bool false, .int .u32 0] 39)) ?_ ⟨(Below.refl _ _).alloc (Nat.le_refl _) _, wz.heap.size, rfl, hsz, heap_alloc_new _ _⟩
      go_simp
  intro vE wE hbE hrE
  simp only [putSel, slotAt, Act.put, if_true, if_pos, List.getElem?_toArray, List.getElem?_cons_succ, List.getElem?_cons_zero, Option.bind_some, List.setIfInBounds_toArray, List.set_cons_zero, List.set_cons_succ, List.foldl_cons, List.foldl_nil]
  have hHeld := Below.trans hHeld (hbE.mono hHeld.size)
  refine wpAnyH_ready (rs := [7]) (by kernel_rfl) (by simp) (AllReadyH.cons rfl (fun Kx hKx => ?_) AllReadyH.nil)
  obtain ⟨mv, e5, hrz⟩ : ∃ mv, vE 5 = bus0 mv a len cap ∧ RZ w1.heap.size (64 * K) mv wE := hrE 5 (by simp)
  obtain ⟨Zd, e6, hZd, hbx⟩ : ∃ E, vE 6 = .pointer (some ⟨E, 0, none⟩) ∧ w1.heap.size ≤ E ∧ BoxB wE E (.slice none 0 0) (.slice none 0 0) (.int .i64 0) (.slice none 0 0) (.bool false) (.slice none 0 0) (.int .u64 0) (.int .u64 0) (.bool false) (.bool false) (.int .u32 0) := hrE 6 (by simp)
  obtain ⟨B1, c1, rfl, hrz2⟩ := id hrz
  rw [e5, e6]
  have HG0 := Lib.hid (pg_start (a := a) (cap := cap) HI1.out HF.out HB1.out hHeld hrz hZd hbx)
  have HZD := Lib.hid hZd
  have HBX := Lib.hid hbx
  have HE := Lib.hid hHeld
  obtain ⟨p0, p1, p2, p3, p4, p5, p6, p7, p8, p9, p10⟩ := hbx.cells
  obtain ⟨f0, f1, f2, f3, f4, f5, f6, f7, f8, f9, f10⟩ := hbx.free
  clear hrE hrz hrz2 hZd hbx hbE e5 e6
  go_simp
  refine hKx.out _ _ (HE.out.trans ((bar11 Zd wE (.slice (some ⟨B1, 0, none⟩) (64 * K) c1) (.slice a len cap) (.int .i64 0) (.slice none 0 0) (.bool false) (.slice none 0 0) (.int .u64 0) (.int .u64 18446744073709551615) (.bool false) (.bool false) (.int .u32 0)).below HZD.out HE.out.size)) (fun hHeld => ?_)
  clear hKx Kx
  refine wpAnyH_done (by kernel_rfl) ?_ _

  clear hHeld HBX p0 p1 p2 p3 p4 p5 p6 p7 p8 p9 p10 f0 f1 f2 f3 f4 f5 f6 f7 f8 f9 f10
  have HAP : Hid (w.heap.size ≤ Zd) := Nat.le_trans HB1.out.size HZD.out
  clear HI1 HF HB1 HE HZD
  generalize (((((((((((wE.setCell ⟨Zd, 0, none⟩ (.slice (some ⟨B1, 0, none⟩) (64 * K) c1)).setCell ⟨Zd, 1, none⟩ (.slice a len cap)).setCell ⟨Zd, 2, none⟩ (.int .i64 0)).setCell ⟨Zd, 3, none⟩ (.slice none 0 0)).setCell ⟨Zd, 4, none⟩ (.bool false)).setCell ⟨Zd, 5, none⟩ (.slice none 0 0)).setCell ⟨Zd, 6, none⟩ (.int .u64 0)).setCell ⟨Zd, 7, none⟩ (.int .u64 18446744073709551615)).setCell ⟨Zd, 8, none⟩ (.bool false)).setCell ⟨Zd, 9, none⟩ (.bool false)).setCell ⟨Zd, 10, none⟩ (.int .u32 0)) = wS at *
  go_wp2_with fail
  go_loopw [9] (fun i wr => ∃ k : Nat, k ≤ sl ∧ i = .int .i64 k ∧ ∃ x S Zm cm ra rc oa oc, PG w B R P C A K Zd a len cap T Y k x S Zm cm ra rc oa oc wr) (fun i _ => sl - (intOf i).toNat)
  case atStart => exact ⟨0, Nat.zero_le _, rfl, _, _, _, _, _, _, _, _, HG0.out⟩
  case round =>
    clear HG0
    obtain ⟨k, hk, rfl, x, S, Zm, cm, ra, rc, oa, oc, hg⟩ := hrel
    by_cases hlt : k < sl
    · obtain ⟨_, hst⟩ := HSPS.out
      rcases hst with hst | ⟨bl, bo, hva, hst⟩
      · omega
      obtain ⟨hcells, hpa, hpv⟩ := hst k hlt
      obtain ⟨p, hpF⟩ : ∃ p, F k = p := ⟨_, rfl⟩
      rw [hpF] at hcells hpa hpv
      clear hst hpF
      subst hva
      obtain ⟨hbox, hi, hrf, hok, hnA, hSb, hbw⟩ := hg
      have hd : Below wr.heap.size wr wr.drew := (Below.refl _ _).drew
      have lbl : bl < w.heap.size := World.block_lt_of_cell? w _ hcells.1
      have HI1 := Lib.hid (hi.on hd)
      have HR1 := Lib.hid (hrf.on hd)
      have HA1 := Lib.hid (HARR.out _ hbw.drew)
      have HNS : Hid (¬ Fp B R P A S Zd ∧ ¬ Fp B R P A S bl) := ⟨hnA, fun e => by have := hSb _ e; omega⟩
      have HSB := Lib.hid hSb
      have HCL : Hid (∀ W, Below w.heap.size w W → Sq5 W bl (bo + k * 5) p) := fun W hw => by
        obtain ⟨e0, e1, e2, e3, e4⟩ := hcells
        exact ⟨by rw [hw.cell (p := ⟨bl, _, none⟩) lbl]; exact e0, by rw [hw.cell (p := ⟨bl, _, none⟩) lbl]; exact e1, by rw [hw.cell (p := ⟨bl, _, none⟩) lbl]; exact e2, by rw [hw.cell (p := ⟨bl, _, none⟩) lbl]; exact e3, by rw [hw.cell (p := ⟨bl, _, none⟩) lbl]; exact e4⟩
      have HPC : Hid (PC Zd bl (bo + k * 5) (.slice (some ⟨Zm, 0, none⟩) (64 * K) cm) (.slice a len cap) (.int .i64 (x.s.c : Int)) (.slice ra x.s.n rc) (.bool x.s.ov) (.slice oa x.s.m oc) (.int .u64 x.o) (.int .u64 x.m) (.bool x.sf) (.bool x.off) (.int .u32 x.code) p wr.drew) := ⟨hbox.on hd, HCL.out _ hbw.drew⟩
      have HST : Hid (∀ W, IsBus W B R P C A K S len T Y x → RefB (Fp B R P A S) W (.agg #[.slice (some ⟨Zm, 0, none⟩) (64 * K) cm, .slice a len cap, .int .i64 (x.s.c : Int), .slice ra x.s.n rc, .bool x.s.ov, .slice oa x.s.m oc, .int .u64 x.o, .int .u64 x.m, .bool x.sf, .bool x.off, .int .u32 x.code]) a len cap K x → IsArr W a len cap T Y → Calls Try.prog 12 #[.pointer (some ⟨B, 0, none⟩), .agg #[.slice (some ⟨Zm, 0, none⟩) (64 * K) cm, .slice a len cap, .int .i64 (x.s.c : Int), .slice ra x.s.n rc, .bool x.s.ov, .slice oa x.s.m oc, .int .u64 x.o, .int .u64 x.m, .bool x.sf, .bool x.off, .int .u32 x.code], .agg #[.int .i64 p.kind, .int .u32 p.ad, .int .i64 p.n, .int .u32 p.v, .int .u64 p.t]] W fun e w' => ∃ v', e = .returned (.tuple #[v', .bool true]) ∧ StepOut14 W B R P C A K S a len cap T Y k v' w') := fun W h1 h2 h3 =>
        step14_any p k W HK.out.2 (by have := HK100.out; omega) hpa hpv hok.1 hok.2 h1 h2 HL256.out h3 (fun h0 ad he e => by have := HBLK.out h0 ad he; have := HSB.out _ e; omega)
      have HBW : Hid (Below w.heap.size w wr.drew) := hbw.drew
      have HLT1 : Hid (Zd < wr.drew.heap.size ∧ bl < wr.drew.heap.size) := ⟨hbox.lt, by have := hbw.size; show bl < wr.heap.size; omega⟩
      have g1 : (k : Int) < sl := by omega
      clear hbox hi hrf hok hnA hSb hbw hd lbl hcells hpa hpv
      go_wp2_with fail
      refine wp_region_held_drew (S := PC Zd bl (bo + k * 5) (.slice (some ⟨Zm, 0, none⟩) (64 * K) cm) (.slice a len cap) (.int .i64 (x.s.c : Int)) (.slice ra x.s.n rc) (.bool x.s.ov) (.slice oa x.s.m oc) (.int .u64 x.o) (.int .u64 x.m) (.bool x.sf) (.bool x.off) (.int .u32 x.code) p) (by kernel_rfl) (HPC.out) (fun hHeld => ?_)
      generalize wr.drew = wd at *
      refine wpAnyH_take (i := 0) (oi := ?o0_8) (v := ?v0_8) ?ho0_8 (by kernel_rfl) (by kernel_rfl) (by kernel_rfl) ?q0_8 ?y0_8 (by assumption) ?rest0_8
      case ho0_8 => (simp only [List.getElem?_toArray, List.getElem?_cons_succ, List.getElem?_cons_zero]; rfl)
      case q0_8 => exact fun _ _ _ h => h
      case y0_8 => (refine Or.inl ⟨by rfl, ?_⟩; intro w hSw; (try dsimp only at hSw); go_simp; try with_reducible rfl)
      try simp only [Act.put, List.setIfInBounds_toArray, List.set_cons_zero, List.set_cons_succ]
      refine wpAnyH_take (i := 1) (oi := ?o1_8) (v := ?v1_8) ?ho1_8 (by kernel_rfl) (by kernel_rfl) (by kernel_rfl) ?q1_8 ?y1_8 (by assumption) ?rest1_8
      case ho1_8 => (simp only [List.getElem?_toArray, List.getElem?_cons_succ, List.getElem?_cons_zero]; rfl)
      case q1_8 => exact fun _ _ _ h => h
      case y1_8 => (refine Or.inl ⟨by rfl, ?_⟩; intro w hSw; (try dsimp only at hSw); obtain ⟨qa0, qa1, qa2, qa3, qa4, qa5, qa6, qa7, qa8, qa9, qa10⟩ := hSw.1.cells; go_simp; try with_reducible rfl)
      try simp only [Act.put, List.setIfInBounds_toArray, List.set_cons_zero, List.set_cons_succ]
      refine wpAnyH_take (i := 2) (oi := ?o2_8) (v := ?v2_8) ?ho2_8 (by kernel_rfl) (by kernel_rfl) (by kernel_rfl) ?q2_8 ?y2_8 (by assumption) ?rest2_8
      case ho2_8 => (simp only [List.getElem?_toArray, List.getElem?_cons_succ, List.getElem?_cons_zero]; rfl)
      case q2_8 => exact fun _ _ _ h => h
      case y2_8 => (refine Or.inl ⟨by rfl, ?_⟩; intro w hSw; (try dsimp only at hSw); go_simp; try with_reducible rfl)
      try simp only [Act.put, List.setIfInBounds_toArray, List.set_cons_zero, List.set_cons_succ]
      refine wpAnyH_take (i := 3) (oi := ?o3_8) (v := ?v3_8) ?ho3_8 (by kernel_rfl) (by kernel_rfl) (by kernel_rfl) ?q3_8 ?y3_8 (by assumption) ?rest3_8
      case ho3_8 => (simp only [List.getElem?_toArray, List.getElem?_cons_succ, List.getElem?_cons_zero]; rfl)
      case q3_8 => exact fun _ _ _ h => h
      case y3_8 => (refine Or.inl ⟨by rfl, ?_⟩; intro w hSw; (try dsimp only at hSw); go_simp; try with_reducible rfl)
      try simp only [Act.put, List.setIfInBounds_toArray, List.set_cons_zero, List.set_cons_succ]
      refine wpAnyH_take (i := 4) (oi := ?o4_8) (v := ?v4_8) ?ho4_8 (by kernel_rfl) (by kernel_rfl) (by kernel_rfl) ?q4_8 ?y4_8 (by assumption) ?rest4_8
      case ho4_8 => (simp only [List.getElem?_toArray, List.getElem?_cons_succ, List.getElem?_cons_zero]; rfl)
      case q4_8 => exact fun _ _ _ h => h
      case y4_8 => (refine Or.inl ⟨by rfl, ?_⟩; intro w hSw; (try dsimp only at hSw); go_simp; try with_reducible rfl)
      try simp only [Act.put, List.setIfInBounds_toArray, List.set_cons_zero, List.set_cons_succ]
      refine wpAnyH_take (i := 5) (oi := ?o5_8) (v := ?v5_8) ?ho5_8 (by kernel_rfl) (by kernel_rfl) (by kernel_rfl) ?q5_8 ?y5_8 (by assumption) ?rest5_8
      case ho5_8 => (simp only [List.getElem?_toArray, List.getElem?_cons_succ, List.getElem?_cons_zero]; rfl)
      case q5_8 => exact fun _ _ _ h => h
      case y5_8 => (refine Or.inl ⟨by rfl, ?_⟩; intro w hSw; (try dsimp only at hSw); obtain ⟨qf, qg, qh, qi, qj⟩ := hSw.2; go_simp; try with_reducible rfl)
      try simp only [Act.put, List.setIfInBounds_toArray, List.set_cons_zero, List.set_cons_succ]
      refine wpAnyH_ready (rs := [6, 10]) (by kernel_rfl) (by simp) (AllReadyH.cons rfl (fun Kx hKx => ?b6_8) (AllReadyH.cons rfl (fun Kx hKx => ?b10_8) AllReadyH.nil))
      case b6_8 =>
        go_simp
        refine (HST.out _ ?_ ?_ ?_).mono ?_
        first | exact HI1.out | exact HI2.out
        first | exact HR1.out | exact HR2.out
        first | exact HA1.out | exact HA2.out
        rintro e W2 ⟨v', rfl, x', S', hc', hr', hok', hf', he'⟩
        have hb6 := hHeld.fr hf' HNS.out.1 HNS.out.2
        obtain ⟨mv', rx', out', rfl, h0', hx', ho'⟩ := id hr'
        obtain ⟨Zm', cm', rfl, -, -, -, -⟩ := id h0'
        obtain ⟨ra', rc', rfl⟩ := hx'.form
        obtain ⟨oa', oc', rfl⟩ := ho'.form
        have HI' := Lib.hid hc'
        have HR' := Lib.hid hr'
        have HOK' := Lib.hid hok'
        have HF' := Lib.hid hf'
        have HE' := Lib.hid he'
        clear hc' hr' hok' hf' he' h0' hx' ho'
        try go_wp2_with fail
        refine hKx.out _ _ hb6 (fun hHeld => ?_)
        clear hKx Kx
        try simp only [Act.put, List.setIfInBounds_toArray, List.set_cons_zero, List.set_cons_succ]
        refine wpAnyH_take (i := 7) (oi := ?o7_8_6) (v := ?v7_8_6) ?ho7_8_6 (by kernel_rfl) (by kernel_rfl) (by kernel_rfl) ?q7_8_6 ?y7_8_6 (by assumption) ?rest7_8_6
        case ho7_8_6 => (simp only [List.getElem?_toArray, List.getElem?_cons_succ, List.getElem?_cons_zero]; rfl)
        case q7_8_6 => exact fun _ _ _ h => h
        case y7_8_6 => (refine Or.inl ⟨by rfl, ?_⟩; intro w hSw; (try dsimp only at hSw); go_simp; try with_reducible rfl)
        try simp only [Act.put, List.setIfInBounds_toArray, List.set_cons_zero, List.set_cons_succ]
        refine wpAnyH_take (i := 8) (oi := ?o8_8_6) (v := ?v8_8_6) ?ho8_8_6 (by kernel_rfl) (by kernel_rfl) (by kernel_rfl) ?q8_8_6 ?y8_8_6 (by assumption) ?rest8_8_6
        case ho8_8_6 => (simp only [List.getElem?_toArray, List.getElem?_cons_succ, List.getElem?_cons_zero]; rfl)
        case q8_8_6 => exact fun _ _ _ h => h
        case y8_8_6 => (refine Or.inl ⟨by rfl, ?_⟩; intro w hSw; (try dsimp only at hSw); go_simp; try with_reducible rfl)
        try simp only [Act.put, List.setIfInBounds_toArray, List.set_cons_zero, List.set_cons_succ]
        refine wpAnyH_take (i := 9) (oi := ?o9_8_6) (v := ?v9_8_6) ?ho9_8_6 (by kernel_rfl) (by kernel_rfl) (by kernel_rfl) ?q9_8_6 ?y9_8_6 (by assumption) ?rest9_8_6
        case ho9_8_6 => (simp only [List.getElem?_toArray, List.getElem?_cons_succ, List.getElem?_cons_zero]; rfl)
        case q9_8_6 => exact fun _ _ _ h => h
        case y9_8_6 => (refine Or.inl ⟨by rfl, ?_⟩; intro w hSw; (try dsimp only at hSw); go_simp; try with_reducible rfl)
        try simp only [Act.put, List.setIfInBounds_toArray, List.set_cons_zero, List.set_cons_succ]
        refine wpAnyH_ready (rs := [10]) (by kernel_rfl) (by simp) (AllReadyH.cons rfl (fun Kx hKx => ?_) AllReadyH.nil)
        go_simp
        first
        | (refine hKx.out _ _ (hHeld.on ((Below.refl _ _).alloc (Nat.le_refl _) _)) (fun hHeld => ?_))
        first
        | (have HBE : Hid (BoxB (W2.alloc (.cells #[.slice none 0 0, .slice none 0 0, .int .i64 0, .slice none 0 0, .bool false, .slice none 0 0, .int .u64 0, .int .u64 0, .bool false, .bool false, .int .u32 0] 39)) W2.heap.size (.slice none 0 0) (.slice none 0 0) (.int .i64 0) (.slice none 0 0) (.bool false) (.slice none 0 0) (.int .u64 0) (.int .u64 0) (.bool false) (.bool false) (.int .u32 0) ∧ Below W2.heap.size W2 (W2.alloc (.cells #[.slice none 0 0, .slice none 0 0, .int .i64 0, .slice none 0 0, .bool false, .slice none 0 0, .int .u64 0, .int .u64 0, .bool false, .bool false, .int .u32 0] 39))) := ⟨heap_alloc_new _ _, (Below.refl _ _).alloc (Nat.le_refl _) _⟩)
        | (have HBE : Hid (BoxB (wd.alloc (.cells #[.slice none 0 0, .slice none 0 0, .int .i64 0, .slice none 0 0, .bool false, .slice none 0 0, .int .u64 0, .int .u64 0, .bool false, .bool false, .int .u32 0] 39)) wd.heap.size (.slice none 0 0) (.slice none 0 0) (.int .i64 0) (.slice none 0 0) (.bool false) (.slice none 0 0) (.int .u64 0) (.int .u64 0) (.bool false) (.bool false) (.int .u32 0) ∧ Below wd.heap.size wd (wd.alloc (.cells #[.slice none 0 0, .slice none 0 0, .int .i64 0, .slice none 0 0, .bool false, .slice none 0 0, .int .u64 0, .int .u64 0, .bool false, .bool false, .int .u32 0] 39))) := ⟨heap_alloc_new _ _, (Below.refl _ _).alloc (Nat.le_refl _) _⟩
           have HI2 := Lib.hid (HI1.out.on HBE.out.2)
           have HR2 := Lib.hid (HR1.out.on HBE.out.2)
           have HA2 := Lib.hid (HA1.out.on HBE.out.2))
        clear hKx Kx
        try simp only [Act.put, List.setIfInBounds_toArray, List.set_cons_zero, List.set_cons_succ]
        refine wpAnyH_ready (rs := [11]) (by kernel_rfl) (by simp) (AllReadyH.cons rfl (fun Kx hKx => ?_) AllReadyH.nil)
        first
        | (have HX : Hid (BoxB (W2.alloc (.cells #[.slice none 0 0, .slice none 0 0, .int .i64 0, .slice none 0 0, .bool false, .slice none 0 0, .int .u64 0, .int .u64 0, .bool false, .bool false, .int .u32 0] 39)) W2.heap.size (.slice none 0 0) (.slice none 0 0) (.int .i64 0) (.slice none 0 0) (.bool false) (.slice none 0 0) (.int .u64 0) (.int .u64 0) (.bool false) (.bool false) (.int .u32 0)) := HBE.out.1
           obtain ⟨t0, t1, t2, t3, t4, t5, t6, t7, t8, t9, t10⟩ := HX.out.cells
           obtain ⟨u0, u1, u2, u3, u4, u5, u6, u7, u8, u9, u10⟩ := HX.out.free
           have hb11 : PC Zd bl (bo + k * 5) (.slice (some ⟨Zm, 0, none⟩) (64 * K) cm) (.slice a len cap) (.int .i64 (x.s.c : Int)) (.slice ra x.s.n rc) (.bool x.s.ov) (.slice oa x.s.m oc) (.int .u64 x.o) (.int .u64 x.m) (.bool x.sf) (.bool x.off) (.int .u32 x.code) p (W2.alloc (.cells #[.slice (some ⟨Zm', 0, none⟩) (64 * K) cm', .slice a len cap, .int .i64 (x'.s.c : Int), .slice ra' x'.s.n rc', .bool x'.s.ov, .slice oa' x'.s.m oc', .int .u64 x'.o, .int .u64 x'.m, .bool x'.sf, .bool x'.off, .int .u32 x'.code] 39)) := hb6.on ((Below.refl _ _).alloc (Nat.le_refl _) _)
           go_simp
           refine hKx.out _ _ hb11 (fun hHeld => ?_))
        | (have HX : Hid (BoxB W2 wd.heap.size (.slice none 0 0) (.slice none 0 0) (.int .i64 0) (.slice none 0 0) (.bool false) (.slice none 0 0) (.int .u64 0) (.int .u64 0) (.bool false) (.bool false) (.int .u32 0)) := HBE.out.1.fr HF'.out (fun e => by have := HI1.out.lt _ e; omega)
           obtain ⟨t0, t1, t2, t3, t4, t5, t6, t7, t8, t9, t10⟩ := HX.out.cells
           obtain ⟨u0, u1, u2, u3, u4, u5, u6, u7, u8, u9, u10⟩ := HX.out.free
           have hb11 := hHeld.bar (bar11 wd.heap.size W2 (.slice (some ⟨Zm', 0, none⟩) (64 * K) cm') (.slice a len cap) (.int .i64 (x'.s.c : Int)) (.slice ra' x'.s.n rc') (.bool x'.s.ov) (.slice oa' x'.s.m oc') (.int .u64 x'.o) (.int .u64 x'.m) (.bool x'.sf) (.bool x'.off) (.int .u32 x'.code)) (by have := HLT1.out; omega) (by have := HLT1.out; omega)
           go_simp
           refine hKx.out _ _ hb11 (fun hHeld => ?_))
        clear hKx Kx hb11
        refine wpAnyH_take (i := 12) (oi := ?o12_8_6) (v := ?v12_8_6) ?ho12_8_6 (by kernel_rfl) (by kernel_rfl) (by kernel_rfl) ?q12_8_6 ?y12_8_6 (by assumption) ?rest12_8_6
        case ho12_8_6 => (simp only [List.getElem?_toArray, List.getElem?_cons_succ, List.getElem?_cons_zero]; rfl)
        case q12_8_6 => exact fun _ _ _ h => h
        case y12_8_6 => (refine Or.inl ⟨by rfl, ?_⟩; intro w hSw; (try dsimp only at hSw); go_simp; try with_reducible rfl)
        try simp only [Act.put, List.setIfInBounds_toArray, List.set_cons_zero, List.set_cons_succ]
        refine wpAnyH_done (by kernel_rfl) ?_ _
        have HF := Lib.hid hHeld
        clear hHeld
        have hE : PE w B R P C A K Zd a len cap T Y (k + 1) x' S' Zm' cm' ra' rc' oa' oc' (.slice (some ⟨Zm, 0, none⟩) (64 * K) cm) (.slice a len cap) (.int .i64 (x.s.c : Int)) (.slice ra x.s.n rc) (.bool x.s.ov) (.slice oa x.s.m oc) (.int .u64 x.o) (.int .u64 x.m) (.bool x.sf) (.bool x.off) (.int .u32 x.code) W2.heap.size (W2.alloc (.cells #[.slice (some ⟨Zm', 0, none⟩) (64 * K) cm', .slice a len cap, .int .i64 (x'.s.c : Int), .slice ra' x'.s.n rc', .bool x'.s.ov, .slice oa' x'.s.m oc', .int .u64 x'.o, .int .u64 x'.m, .bool x'.sf, .bool x'.off, .int .u32 x'.code] 39)) := by
          have hb := (Below.refl W2.heap.size W2).alloc (Nat.le_refl _) (.cells #[.slice (some ⟨Zm', 0, none⟩) (64 * K) cm', .slice a len cap, .int .i64 (x'.s.c : Int), .slice ra' x'.s.n rc', .bool x'.s.ov, .slice oa' x'.s.m oc', .int .u64 x'.o, .int .u64 x'.m, .bool x'.sf, .bool x'.off, .int .u32 x'.code] 39)
          have hz := HF'.out.size
          have hl := HLT1.out
          have hw := HBW.out.size
          exact ⟨heap_alloc_new _ _, HF.out.1, by omega, HI'.out.on hb, HR'.out.on hb, HOK'.out, fun e => by rcases ext_fp HE'.out _ e with h | h; exact HNS.out.1 h; omega, fun q hq => by rcases ext_fp HE'.out _ hq with h | h; exact HSB.out _ h; omega, (HBW.out.trans (HF'.out.below HSB.out HBW.out.size)).alloc (by omega) _⟩
        have HE := Lib.hid hE
        clear hE HX HBE HF t0 t1 t2 t3 t4 t5 t6 t7 t8 t9 t10 u0 u1 u2 u3 u4 u5 u6 u7 u8 u9 u10 hb6
        generalize W2.alloc (.cells #[.slice (some ⟨Zm', 0, none⟩) (64 * K) cm', .slice a len cap, .int .i64 (x'.s.c : Int), .slice ra' x'.s.n rc', .bool x'.s.ov, .slice oa' x'.s.m oc', .int .u64 x'.o, .int .u64 x'.m, .bool x'.sf, .bool x'.off, .int .u32 x'.code] 39) = W5 at *
        generalize W2.heap.size = E at *
        clear HI' HR' HOK' HF' HE' HI1 HR1 HA1 HPC HLT1 HST HBW HNS HSB
        have HEN : Hid (W5.heap[E]? = some (.cells #[.slice (some ⟨Zm', 0, none⟩) (64 * K) cm', .slice a len cap, .int .i64 (x'.s.c : Int), .slice ra' x'.s.n rc', .bool x'.s.ov, .slice oa' x'.s.m oc', .int .u64 x'.o, .int .u64 x'.m, .bool x'.sf, .bool x'.off, .int .u32 x'.code] 39 (0, 0))) := HE.out.1
        have HEO : Hid (W5.heap[Zd]? = some (.cells #[.slice (some ⟨Zm, 0, none⟩) (64 * K) cm, .slice a len cap, .int .i64 (x.s.c : Int), .slice ra x.s.n rc, .bool x.s.ov, .slice oa x.s.m oc, .int .u64 x.o, .int .u64 x.m, .bool x.sf, .bool x.off, .int .u32 x.code] 39 (0, 0))) := HE.out.2.1
        go_wp2_with (first
          | (refine wpList_load_row rfl 39 (.tmp 10) rfl E 39 rfl _ _ HEN.out Try.underlying39 rfl (by kernel_rfl) ?_)
          | (refine wpList_store_row rfl 39 (.tmp 8) (.tmp 55) rfl Zd 39 _ _ rfl rfl HEO.out (by kernel_rfl) rfl one11 ?_; have HG := Lib.hid (HE.out.fin HAP.out); clear HE HEN HEO; generalize W5.setRow Zd #[.slice (some ⟨Zm', 0, none⟩) (64 * K) cm', .slice a len cap, .int .i64 (x'.s.c : Int), .slice ra' x'.s.n rc', .bool x'.s.ov, .slice oa' x'.s.m oc', .int .u64 x'.o, .int .u64 x'.m, .bool x'.sf, .bool x'.off, .int .u32 x'.code] = W6 at *; obtain ⟨p0, p1, p2, p3, p4, p5, p6, p7, p8, p9, p10⟩ := HG.out.1.cells; obtain ⟨s0, s1, s2, s3, s4⟩ := HCL.out W6 HG.out.2.2.2.2.2.2))
        have HSM : Hid (∀ W, PG w B R P C A K Zd a len cap T Y (k + 1) x' S' Zm' cm' ra' rc' oa' oc' W → Calls Try.prog 13 #[.pointer (some ⟨B, 0, none⟩), .agg #[.slice (some ⟨Zm', 0, none⟩) (64 * K) cm', .slice a len cap, .int .i64 (x'.s.c : Int), .slice ra' x'.s.n rc', .bool x'.s.ov, .slice oa' x'.s.m oc', .int .u64 x'.o, .int .u64 x'.m, .bool x'.sf, .bool x'.off, .int .u32 x'.code], .int .u64 p.t] W fun e w' => e = .returned (.bool true) ∧ PG w B R P C A K Zd a len cap T Y (k + 1) x' S' Zm' cm' ra' rc' oa' oc' w') := fun W hG => by
          refine (same14_any p.t W HK.out.1 HK.out.2 (by have := hG.2.2.2.1.1.2.2.2; have := HK100.out; omega) hG.2.1 hG.2.2.1).mono ?_
          rintro e w' ⟨rfl, hb⟩
          exact ⟨rfl, hG.on hb⟩
        clear p0 p1 p2 p3 p4 p5 p6 p7 p8 p9 p10 s0 s1 s2 s3 s4
        refine wp_region_held_drew (S := PG w B R P C A K Zd a len cap T Y (k + 1) x' S' Zm' cm' ra' rc' oa' oc') (by kernel_rfl) (HG.out.on ((Below.refl _ _).drew)) (fun hHeld => ?_)
        refine wpAnyH_take (i := 0) (oi := ?o0_10a) (v := ?v0_10a) ?ho0_10a (by kernel_rfl) (by kernel_rfl) (by kernel_rfl) ?q0_10a ?y0_10a (by assumption) ?rest0_10a
        case ho0_10a => (simp only [List.getElem?_toArray, List.getElem?_cons_succ, List.getElem?_cons_zero]; rfl)
        case q0_10a => exact fun _ _ _ h => h
        case y0_10a => (refine Or.inl ⟨by rfl, ?_⟩; intro w hSw; (try dsimp only at hSw); go_simp; try with_reducible rfl)
        try simp only [Act.put, List.setIfInBounds_toArray, List.set_cons_zero, List.set_cons_succ]
        refine wpAnyH_take (i := 1) (oi := ?o1_10a) (v := ?v1_10a) ?ho1_10a (by kernel_rfl) (by kernel_rfl) (by kernel_rfl) ?q1_10a ?y1_10a (by assumption) ?rest1_10a
        case ho1_10a => (simp only [List.getElem?_toArray, List.getElem?_cons_succ, List.getElem?_cons_zero]; rfl)
        case q1_10a => exact fun _ _ _ h => h
        case y1_10a => (refine Or.inl ⟨by rfl, ?_⟩; intro w hSw; (try dsimp only at hSw); go_simp; try with_reducible rfl)
        try simp only [Act.put, List.setIfInBounds_toArray, List.set_cons_zero, List.set_cons_succ]
        refine wpAnyH_take (i := 2) (oi := ?o2_10a) (v := ?v2_10a) ?ho2_10a (by kernel_rfl) (by kernel_rfl) (by kernel_rfl) ?q2_10a ?y2_10a (by assumption) ?rest2_10a
        case ho2_10a => (simp only [List.getElem?_toArray, List.getElem?_cons_succ, List.getElem?_cons_zero]; rfl)
        case q2_10a => exact fun _ _ _ h => h
        case y2_10a => (refine Or.inl ⟨by rfl, ?_⟩; intro w hSw; (try dsimp only at hSw); go_simp; try with_reducible rfl)
        try simp only [Act.put, List.setIfInBounds_toArray, List.set_cons_zero, List.set_cons_succ]
        refine wpAnyH_take (i := 3) (oi := ?o3_10a) (v := ?v3_10a) ?ho3_10a (by kernel_rfl) (by kernel_rfl) (by kernel_rfl) ?q3_10a ?y3_10a (by assumption) ?rest3_10a
        case ho3_10a => (simp only [List.getElem?_toArray, List.getElem?_cons_succ, List.getElem?_cons_zero]; rfl)
        case q3_10a => exact fun _ _ _ h => h
        case y3_10a => (refine Or.inl ⟨by rfl, ?_⟩; intro w hSw; (try dsimp only at hSw); go_simp; try with_reducible rfl)
        try simp only [Act.put, List.setIfInBounds_toArray, List.set_cons_zero, List.set_cons_succ]
        refine wpAnyH_take (i := 4) (oi := ?o4_10a) (v := ?v4_10a) ?ho4_10a (by kernel_rfl) (by kernel_rfl) (by kernel_rfl) ?q4_10a ?y4_10a (by assumption) ?rest4_10a
        case ho4_10a => (simp only [List.getElem?_toArray, List.getElem?_cons_succ, List.getElem?_cons_zero]; rfl)
        case q4_10a => exact fun _ _ _ h => h
        case y4_10a => (refine Or.inl ⟨by rfl, ?_⟩; intro w hSw; (try dsimp only at hSw); obtain ⟨qa0, qa1, qa2, qa3, qa4, qa5, qa6, qa7, qa8, qa9, qa10⟩ := hSw.1.cells; go_simp; try with_reducible rfl)
        try simp only [Act.put, List.setIfInBounds_toArray, List.set_cons_zero, List.set_cons_succ]
        refine wpAnyH_take (i := 5) (oi := ?o5_10a) (v := ?v5_10a) ?ho5_10a (by kernel_rfl) (by kernel_rfl) (by kernel_rfl) ?q5_10a ?y5_10a (by assumption) ?rest5_10a
        case ho5_10a => (simp only [List.getElem?_toArray, List.getElem?_cons_succ, List.getElem?_cons_zero]; rfl)
        case q5_10a => exact fun _ _ _ h => h
        case y5_10a => (refine Or.inl ⟨by rfl, ?_⟩; intro w hSw; (try dsimp only at hSw); go_simp; try with_reducible rfl)
        try simp only [Act.put, List.setIfInBounds_toArray, List.set_cons_zero, List.set_cons_succ]
        refine wpAnyH_take (i := 6) (oi := ?o6_10a) (v := ?v6_10a) ?ho6_10a (by kernel_rfl) (by kernel_rfl) (by kernel_rfl) ?q6_10a ?y6_10a (by assumption) ?rest6_10a
        case ho6_10a => (simp only [List.getElem?_toArray, List.getElem?_cons_succ, List.getElem?_cons_zero]; rfl)
        case q6_10a => exact fun _ _ _ h => h
        case y6_10a => (refine Or.inl ⟨by rfl, ?_⟩; intro w hSw; (try dsimp only at hSw); go_simp; try with_reducible rfl)
        try simp only [Act.put, List.setIfInBounds_toArray, List.set_cons_zero, List.set_cons_succ]
        refine wpAnyH_take (i := 7) (oi := ?o7_10a) (v := ?v7_10a) ?ho7_10a (by kernel_rfl) (by kernel_rfl) (by kernel_rfl) ?q7_10a ?y7_10a (by assumption) ?rest7_10a
        case ho7_10a => (simp only [List.getElem?_toArray, List.getElem?_cons_succ, List.getElem?_cons_zero]; rfl)
        case q7_10a => exact fun _ _ _ h => h
        case y7_10a => (refine Or.inl ⟨by rfl, ?_⟩; intro w hSw; (try dsimp only at hSw); go_simp; try with_reducible rfl)
        try simp only [Act.put, List.setIfInBounds_toArray, List.set_cons_zero, List.set_cons_succ]
        refine wpAnyH_take (i := 8) (oi := ?o8_10a) (v := ?v8_10a) ?ho8_10a (by kernel_rfl) (by kernel_rfl) (by kernel_rfl) ?q8_10a ?y8_10a (by assumption) ?rest8_10a
        case ho8_10a => (simp only [List.getElem?_toArray, List.getElem?_cons_succ, List.getElem?_cons_zero]; rfl)
        case q8_10a => exact fun _ _ _ h => h
        case y8_10a => (refine Or.inl ⟨by rfl, ?_⟩; intro w hSw; (try dsimp only at hSw); go_simp; try with_reducible rfl)
        try simp only [Act.put, List.setIfInBounds_toArray, List.set_cons_zero, List.set_cons_succ]
        refine wpAnyH_take (i := 9) (oi := ?o9_10a) (v := ?v9_10a) ?ho9_10a (by kernel_rfl) (by kernel_rfl) (by kernel_rfl) ?q9_10a ?y9_10a (by assumption) ?rest9_10a
        case ho9_10a => (simp only [List.getElem?_toArray, List.getElem?_cons_succ, List.getElem?_cons_zero]; rfl)
        case q9_10a => exact fun _ _ _ h => h
        case y9_10a => (refine Or.inl ⟨by rfl, ?_⟩; intro w hSw; (try dsimp only at hSw); obtain ⟨s0, s1, s2, s3, s4⟩ := HCL.out _ hSw.2.2.2.2.2.2; go_simp; try with_reducible rfl)
        try simp only [Act.put, List.setIfInBounds_toArray, List.set_cons_zero, List.set_cons_succ]
        refine wpAnyH_ready (rs := [10]) (by kernel_rfl) (by simp) (AllReadyH.cons rfl (fun Kx hKx => ?_) AllReadyH.nil)
        go_simp
        refine (HSM.out _ hHeld).mono ?_
        rintro e W7 ⟨rfl, hg7⟩
        have hb10 := hg7
        clear hg7
        try go_wp2_with fail
        refine hKx.out _ _ hb10 (fun hHeld => ?_)
        clear hKx Kx
        try simp only [Act.put, List.setIfInBounds_toArray, List.set_cons_zero, List.set_cons_succ]
        refine wpAnyH_take (i := 11) (oi := ?o11_10a) (v := ?v11_10a) ?ho11_10a (by kernel_rfl) (by kernel_rfl) (by kernel_rfl) ?q11_10a ?y11_10a (by assumption) ?rest11_10a
        case ho11_10a => (simp only [List.getElem?_toArray, List.getElem?_cons_succ, List.getElem?_cons_zero]; rfl)
        case q11_10a => exact fun _ _ _ h => h
        case y11_10a => (refine Or.inl ⟨by rfl, ?_⟩; intro w hSw; (try dsimp only at hSw); go_simp; try with_reducible rfl)
        try simp only [Act.put, List.setIfInBounds_toArray, List.set_cons_zero, List.set_cons_succ]
        refine wpAnyH_take (i := 12) (oi := ?o12_10a) (v := ?v12_10a) ?ho12_10a (by kernel_rfl) (by kernel_rfl) (by kernel_rfl) ?q12_10a ?y12_10a (by assumption) ?rest12_10a
        case ho12_10a => (simp only [List.getElem?_toArray, List.getElem?_cons_succ, List.getElem?_cons_zero]; rfl)
        case q12_10a => exact fun _ _ _ h => h
        case y12_10a => (refine Or.inl ⟨by rfl, ?_⟩; intro w hSw; (try dsimp only at hSw); go_simp; try with_reducible rfl)
        try simp only [Act.put, List.setIfInBounds_toArray, List.set_cons_zero, List.set_cons_succ]
        refine wpAnyH_done (by kernel_rfl) ?_ _
        have HG7 := Lib.hid hHeld
        clear hHeld HSM HG
        go_wp2
        go_roundw
        case rel => exact ⟨k + 1, by omega, by go_num, _, _, _, _, _, _, _, _, HG7.out⟩
        case measure => simp [intOf]; omega
      case b10_8 =>
        go_simp
        first
        | (refine hKx.out _ _ (hHeld.on ((Below.refl _ _).alloc (Nat.le_refl _) _)) (fun hHeld => ?_))
        first
        | (have HBE : Hid (BoxB (W2.alloc (.cells #[.slice none 0 0, .slice none 0 0, .int .i64 0, .slice none 0 0, .bool false, .slice none 0 0, .int .u64 0, .int .u64 0, .bool false, .bool false, .int .u32 0] 39)) W2.heap.size (.slice none 0 0) (.slice none 0 0) (.int .i64 0) (.slice none 0 0) (.bool false) (.slice none 0 0) (.int .u64 0) (.int .u64 0) (.bool false) (.bool false) (.int .u32 0) ∧ Below W2.heap.size W2 (W2.alloc (.cells #[.slice none 0 0, .slice none 0 0, .int .i64 0, .slice none 0 0, .bool false, .slice none 0 0, .int .u64 0, .int .u64 0, .bool false, .bool false, .int .u32 0] 39))) := ⟨heap_alloc_new _ _, (Below.refl _ _).alloc (Nat.le_refl _) _⟩)
        | (have HBE : Hid (BoxB (wd.alloc (.cells #[.slice none 0 0, .slice none 0 0, .int .i64 0, .slice none 0 0, .bool false, .slice none 0 0, .int .u64 0, .int .u64 0, .bool false, .bool false, .int .u32 0] 39)) wd.heap.size (.slice none 0 0) (.slice none 0 0) (.int .i64 0) (.slice none 0 0) (.bool false) (.slice none 0 0) (.int .u64 0) (.int .u64 0) (.bool false) (.bool false) (.int .u32 0) ∧ Below wd.heap.size wd (wd.alloc (.cells #[.slice none 0 0, .slice none 0 0, .int .i64 0, .slice none 0 0, .bool false, .slice none 0 0, .int .u64 0, .int .u64 0, .bool false, .bool false, .int .u32 0] 39))) := ⟨heap_alloc_new _ _, (Below.refl _ _).alloc (Nat.le_refl _) _⟩
           have HI2 := Lib.hid (HI1.out.on HBE.out.2)
           have HR2 := Lib.hid (HR1.out.on HBE.out.2)
           have HA2 := Lib.hid (HA1.out.on HBE.out.2))
        clear hKx Kx
        try simp only [Act.put, List.setIfInBounds_toArray, List.set_cons_zero, List.set_cons_succ]
        refine wpAnyH_ready (rs := [6]) (by kernel_rfl) (by simp) (AllReadyH.cons rfl (fun Kx hKx => ?_) AllReadyH.nil)
        go_simp
        refine (HST.out _ ?_ ?_ ?_).mono ?_
        first | exact HI1.out | exact HI2.out
        first | exact HR1.out | exact HR2.out
        first | exact HA1.out | exact HA2.out
        rintro e W2 ⟨v', rfl, x', S', hc', hr', hok', hf', he'⟩
        have hb6 := hHeld.fr hf' HNS.out.1 HNS.out.2
        obtain ⟨mv', rx', out', rfl, h0', hx', ho'⟩ := id hr'
        obtain ⟨Zm', cm', rfl, -, -, -, -⟩ := id h0'
        obtain ⟨ra', rc', rfl⟩ := hx'.form
        obtain ⟨oa', oc', rfl⟩ := ho'.form
        have HI' := Lib.hid hc'
        have HR' := Lib.hid hr'
        have HOK' := Lib.hid hok'
        have HF' := Lib.hid hf'
        have HE' := Lib.hid he'
        clear hc' hr' hok' hf' he' h0' hx' ho'
        try go_wp2_with fail
        refine hKx.out _ _ hb6 (fun hHeld => ?_)
        clear hKx Kx
        try simp only [Act.put, List.setIfInBounds_toArray, List.set_cons_zero, List.set_cons_succ]
        refine wpAnyH_take (i := 7) (oi := ?o7_8_10) (v := ?v7_8_10) ?ho7_8_10 (by kernel_rfl) (by kernel_rfl) (by kernel_rfl) ?q7_8_10 ?y7_8_10 (by assumption) ?rest7_8_10
        case ho7_8_10 => (simp only [List.getElem?_toArray, List.getElem?_cons_succ, List.getElem?_cons_zero]; rfl)
        case q7_8_10 => exact fun _ _ _ h => h
        case y7_8_10 => (refine Or.inl ⟨by rfl, ?_⟩; intro w hSw; (try dsimp only at hSw); go_simp; try with_reducible rfl)
        try simp only [Act.put, List.setIfInBounds_toArray, List.set_cons_zero, List.set_cons_succ]
        refine wpAnyH_take (i := 8) (oi := ?o8_8_10) (v := ?v8_8_10) ?ho8_8_10 (by kernel_rfl) (by kernel_rfl) (by kernel_rfl) ?q8_8_10 ?y8_8_10 (by assumption) ?rest8_8_10
        case ho8_8_10 => (simp only [List.getElem?_toArray, List.getElem?_cons_succ, List.getElem?_cons_zero]; rfl)
        case q8_8_10 => exact fun _ _ _ h => h
        case y8_8_10 => (refine Or.inl ⟨by rfl, ?_⟩; intro w hSw; (try dsimp only at hSw); go_simp; try with_reducible rfl)
        try simp only [Act.put, List.setIfInBounds_toArray, List.set_cons_zero, List.set_cons_succ]
        refine wpAnyH_take (i := 9) (oi := ?o9_8_10) (v := ?v9_8_10) ?ho9_8_10 (by kernel_rfl) (by kernel_rfl) (by kernel_rfl) ?q9_8_10 ?y9_8_10 (by assumption) ?rest9_8_10
        case ho9_8_10 => (simp only [List.getElem?_toArray, List.getElem?_cons_succ, List.getElem?_cons_zero]; rfl)
        case q9_8_10 => exact fun _ _ _ h => h
        case y9_8_10 => (refine Or.inl ⟨by rfl, ?_⟩; intro w hSw; (try dsimp only at hSw); go_simp; try with_reducible rfl)
        try simp only [Act.put, List.setIfInBounds_toArray, List.set_cons_zero, List.set_cons_succ]
        refine wpAnyH_ready (rs := [11]) (by kernel_rfl) (by simp) (AllReadyH.cons rfl (fun Kx hKx => ?_) AllReadyH.nil)
        first
        | (have HX : Hid (BoxB (W2.alloc (.cells #[.slice none 0 0, .slice none 0 0, .int .i64 0, .slice none 0 0, .bool false, .slice none 0 0, .int .u64 0, .int .u64 0, .bool false, .bool false, .int .u32 0] 39)) W2.heap.size (.slice none 0 0) (.slice none 0 0) (.int .i64 0) (.slice none 0 0) (.bool false) (.slice none 0 0) (.int .u64 0) (.int .u64 0) (.bool false) (.bool false) (.int .u32 0)) := HBE.out.1
           obtain ⟨t0, t1, t2, t3, t4, t5, t6, t7, t8, t9, t10⟩ := HX.out.cells
           obtain ⟨u0, u1, u2, u3, u4, u5, u6, u7, u8, u9, u10⟩ := HX.out.free
           have hb11 : PC Zd bl (bo + k * 5) (.slice (some ⟨Zm, 0, none⟩) (64 * K) cm) (.slice a len cap) (.int .i64 (x.s.c : Int)) (.slice ra x.s.n rc) (.bool x.s.ov) (.slice oa x.s.m oc) (.int .u64 x.o) (.int .u64 x.m) (.bool x.sf) (.bool x.off) (.int .u32 x.code) p (W2.alloc (.cells #[.slice (some ⟨Zm', 0, none⟩) (64 * K) cm', .slice a len cap, .int .i64 (x'.s.c : Int), .slice ra' x'.s.n rc', .bool x'.s.ov, .slice oa' x'.s.m oc', .int .u64 x'.o, .int .u64 x'.m, .bool x'.sf, .bool x'.off, .int .u32 x'.code] 39)) := hb6.on ((Below.refl _ _).alloc (Nat.le_refl _) _)
           go_simp
           refine hKx.out _ _ hb11 (fun hHeld => ?_))
        | (have HX : Hid (BoxB W2 wd.heap.size (.slice none 0 0) (.slice none 0 0) (.int .i64 0) (.slice none 0 0) (.bool false) (.slice none 0 0) (.int .u64 0) (.int .u64 0) (.bool false) (.bool false) (.int .u32 0)) := HBE.out.1.fr HF'.out (fun e => by have := HI1.out.lt _ e; omega)
           obtain ⟨t0, t1, t2, t3, t4, t5, t6, t7, t8, t9, t10⟩ := HX.out.cells
           obtain ⟨u0, u1, u2, u3, u4, u5, u6, u7, u8, u9, u10⟩ := HX.out.free
           have hb11 := hHeld.bar (bar11 wd.heap.size W2 (.slice (some ⟨Zm', 0, none⟩) (64 * K) cm') (.slice a len cap) (.int .i64 (x'.s.c : Int)) (.slice ra' x'.s.n rc') (.bool x'.s.ov) (.slice oa' x'.s.m oc') (.int .u64 x'.o) (.int .u64 x'.m) (.bool x'.sf) (.bool x'.off) (.int .u32 x'.code)) (by have := HLT1.out; omega) (by have := HLT1.out; omega)
           go_simp
           refine hKx.out _ _ hb11 (fun hHeld => ?_))
        clear hKx Kx hb11
        refine wpAnyH_take (i := 12) (oi := ?o12_8_10) (v := ?v12_8_10) ?ho12_8_10 (by kernel_rfl) (by kernel_rfl) (by kernel_rfl) ?q12_8_10 ?y12_8_10 (by assumption) ?rest12_8_10
        case ho12_8_10 => (simp only [List.getElem?_toArray, List.getElem?_cons_succ, List.getElem?_cons_zero]; rfl)
        case q12_8_10 => exact fun _ _ _ h => h
        case y12_8_10 => (refine Or.inl ⟨by rfl, ?_⟩; intro w hSw; (try dsimp only at hSw); go_simp; try with_reducible rfl)
        try simp only [Act.put, List.setIfInBounds_toArray, List.set_cons_zero, List.set_cons_succ]
        refine wpAnyH_done (by kernel_rfl) ?_ _
        have HF := Lib.hid hHeld
        clear hHeld
        have hE : PE w B R P C A K Zd a len cap T Y (k + 1) x' S' Zm' cm' ra' rc' oa' oc' (.slice (some ⟨Zm, 0, none⟩) (64 * K) cm) (.slice a len cap) (.int .i64 (x.s.c : Int)) (.slice ra x.s.n rc) (.bool x.s.ov) (.slice oa x.s.m oc) (.int .u64 x.o) (.int .u64 x.m) (.bool x.sf) (.bool x.off) (.int .u32 x.code) wd.heap.size (((((((((((W2.setCell ⟨wd.heap.size, 0, none⟩ (.slice (some ⟨Zm', 0, none⟩) (64 * K) cm')).setCell ⟨wd.heap.size, 1, none⟩ (.slice a len cap)).setCell ⟨wd.heap.size, 2, none⟩ (.int .i64 (x'.s.c : Int))).setCell ⟨wd.heap.size, 3, none⟩ (.slice ra' x'.s.n rc')).setCell ⟨wd.heap.size, 4, none⟩ (.bool x'.s.ov)).setCell ⟨wd.heap.size, 5, none⟩ (.slice oa' x'.s.m oc')).setCell ⟨wd.heap.size, 6, none⟩ (.int .u64 x'.o)).setCell ⟨wd.heap.size, 7, none⟩ (.int .u64 x'.m)).setCell ⟨wd.heap.size, 8, none⟩ (.bool x'.sf)).setCell ⟨wd.heap.size, 9, none⟩ (.bool x'.off)).setCell ⟨wd.heap.size, 10, none⟩ (.int .u32 x'.code)) := by
          have hb := bar11 wd.heap.size W2 (.slice (some ⟨Zm', 0, none⟩) (64 * K) cm') (.slice a len cap) (.int .i64 (x'.s.c : Int)) (.slice ra' x'.s.n rc') (.bool x'.s.ov) (.slice oa' x'.s.m oc') (.int .u64 x'.o) (.int .u64 x'.m) (.bool x'.sf) (.bool x'.off) (.int .u32 x'.code)
          have hsz := HBE.out.2.size
          have hwd : (wd.alloc (.cells #[.slice none 0 0, .slice none 0 0, .int .i64 0, .slice none 0 0, .bool false, .slice none 0 0, .int .u64 0, .int .u64 0, .bool false, .bool false, .int .u32 0] 39)).heap.size = wd.heap.size + 1 := by simp
          have hz := HF'.out.size
          have hl := HLT1.out
          have hw := HBW.out.size
          have hn : ¬ Fp B R P A S' wd.heap.size := fun e => by rcases ext_fp HE'.out _ e with h | h; (have := HI1.out.lt _ h; omega); omega
          exact ⟨boxB_set _ _ _ _ _ _ _ _ _ _ _ HX.out, HF.out.1, by omega, HI'.out.bar hb hn, HR'.out.box HX.out hb, HOK'.out, fun e => by rcases ext_fp HE'.out _ e with h | h; exact HNS.out.1 h; omega, fun q hq => by rcases ext_fp HE'.out _ hq with h | h; exact HSB.out _ h; omega, ((HBW.out.trans (HBE.out.2.mono HBW.out.size)).trans (HF'.out.below HSB.out (by omega))).trans (hb.below (by omega) (by omega))⟩
        have HE := Lib.hid hE
        clear hE HX HBE HF t0 t1 t2 t3 t4 t5 t6 t7 t8 t9 t10 u0 u1 u2 u3 u4 u5 u6 u7 u8 u9 u10 hb6 HI2 HR2 HA2
        generalize (((((((((((W2.setCell ⟨wd.heap.size, 0, none⟩ (.slice (some ⟨Zm', 0, none⟩) (64 * K) cm')).setCell ⟨wd.heap.size, 1, none⟩ (.slice a len cap)).setCell ⟨wd.heap.size, 2, none⟩ (.int .i64 (x'.s.c : Int))).setCell ⟨wd.heap.size, 3, none⟩ (.slice ra' x'.s.n rc')).setCell ⟨wd.heap.size, 4, none⟩ (.bool x'.s.ov)).setCell ⟨wd.heap.size, 5, none⟩ (.slice oa' x'.s.m oc')).setCell ⟨wd.heap.size, 6, none⟩ (.int .u64 x'.o)).setCell ⟨wd.heap.size, 7, none⟩ (.int .u64 x'.m)).setCell ⟨wd.heap.size, 8, none⟩ (.bool x'.sf)).setCell ⟨wd.heap.size, 9, none⟩ (.bool x'.off)).setCell ⟨wd.heap.size, 10, none⟩ (.int .u32 x'.code)) = W5 at *
        generalize wd.heap.size = E at *
        clear HI' HR' HOK' HF' HE' HI1 HR1 HA1 HPC HLT1 HST HBW HNS HSB
        have HEN : Hid (W5.heap[E]? = some (.cells #[.slice (some ⟨Zm', 0, none⟩) (64 * K) cm', .slice a len cap, .int .i64 (x'.s.c : Int), .slice ra' x'.s.n rc', .bool x'.s.ov, .slice oa' x'.s.m oc', .int .u64 x'.o, .int .u64 x'.m, .bool x'.sf, .bool x'.off, .int .u32 x'.code] 39 (0, 0))) := HE.out.1
        have HEO : Hid (W5.heap[Zd]? = some (.cells #[.slice (some ⟨Zm, 0, none⟩) (64 * K) cm, .slice a len cap, .int .i64 (x.s.c : Int), .slice ra x.s.n rc, .bool x.s.ov, .slice oa x.s.m oc, .int .u64 x.o, .int .u64 x.m, .bool x.sf, .bool x.off, .int .u32 x.code] 39 (0, 0))) := HE.out.2.1
        go_wp2_with (first
          | (refine wpList_load_row rfl 39 (.tmp 10) rfl E 39 rfl _ _ HEN.out Try.underlying39 rfl (by kernel_rfl) ?_)
          | (refine wpList_store_row rfl 39 (.tmp 8) (.tmp 55) rfl Zd 39 _ _ rfl rfl HEO.out (by kernel_rfl) rfl one11 ?_; have HG := Lib.hid (HE.out.fin HAP.out); clear HE HEN HEO; generalize W5.setRow Zd #[.slice (some ⟨Zm', 0, none⟩) (64 * K) cm', .slice a len cap, .int .i64 (x'.s.c : Int), .slice ra' x'.s.n rc', .bool x'.s.ov, .slice oa' x'.s.m oc', .int .u64 x'.o, .int .u64 x'.m, .bool x'.sf, .bool x'.off, .int .u32 x'.code] = W6 at *; obtain ⟨p0, p1, p2, p3, p4, p5, p6, p7, p8, p9, p10⟩ := HG.out.1.cells; obtain ⟨s0, s1, s2, s3, s4⟩ := HCL.out W6 HG.out.2.2.2.2.2.2))
        have HSM : Hid (∀ W, PG w B R P C A K Zd a len cap T Y (k + 1) x' S' Zm' cm' ra' rc' oa' oc' W → Calls Try.prog 13 #[.pointer (some ⟨B, 0, none⟩), .agg #[.slice (some ⟨Zm', 0, none⟩) (64 * K) cm', .slice a len cap, .int .i64 (x'.s.c : Int), .slice ra' x'.s.n rc', .bool x'.s.ov, .slice oa' x'.s.m oc', .int .u64 x'.o, .int .u64 x'.m, .bool x'.sf, .bool x'.off, .int .u32 x'.code], .int .u64 p.t] W fun e w' => e = .returned (.bool true) ∧ PG w B R P C A K Zd a len cap T Y (k + 1) x' S' Zm' cm' ra' rc' oa' oc' w') := fun W hG => by
          refine (same14_any p.t W HK.out.1 HK.out.2 (by have := hG.2.2.2.1.1.2.2.2; have := HK100.out; omega) hG.2.1 hG.2.2.1).mono ?_
          rintro e w' ⟨rfl, hb⟩
          exact ⟨rfl, hG.on hb⟩
        clear p0 p1 p2 p3 p4 p5 p6 p7 p8 p9 p10 s0 s1 s2 s3 s4
        refine wp_region_held_drew (S := PG w B R P C A K Zd a len cap T Y (k + 1) x' S' Zm' cm' ra' rc' oa' oc') (by kernel_rfl) (HG.out.on ((Below.refl _ _).drew)) (fun hHeld => ?_)
        refine wpAnyH_take (i := 0) (oi := ?o0_10b) (v := ?v0_10b) ?ho0_10b (by kernel_rfl) (by kernel_rfl) (by kernel_rfl) ?q0_10b ?y0_10b (by assumption) ?rest0_10b
        case ho0_10b => (simp only [List.getElem?_toArray, List.getElem?_cons_succ, List.getElem?_cons_zero]; rfl)
        case q0_10b => exact fun _ _ _ h => h
        case y0_10b => (refine Or.inl ⟨by rfl, ?_⟩; intro w hSw; (try dsimp only at hSw); go_simp; try with_reducible rfl)
        try simp only [Act.put, List.setIfInBounds_toArray, List.set_cons_zero, List.set_cons_succ]
        refine wpAnyH_take (i := 1) (oi := ?o1_10b) (v := ?v1_10b) ?ho1_10b (by kernel_rfl) (by kernel_rfl) (by kernel_rfl) ?q1_10b ?y1_10b (by assumption) ?rest1_10b
        case ho1_10b => (simp only [List.getElem?_toArray, List.getElem?_cons_succ, List.getElem?_cons_zero]; rfl)
        case q1_10b => exact fun _ _ _ h => h
        case y1_10b => (refine Or.inl ⟨by rfl, ?_⟩; intro w hSw; (try dsimp only at hSw); go_simp; try with_reducible rfl)
        try simp only [Act.put, List.setIfInBounds_toArray, List.set_cons_zero, List.set_cons_succ]
        refine wpAnyH_take (i := 2) (oi := ?o2_10b) (v := ?v2_10b) ?ho2_10b (by kernel_rfl) (by kernel_rfl) (by kernel_rfl) ?q2_10b ?y2_10b (by assumption) ?rest2_10b
        case ho2_10b => (simp only [List.getElem?_toArray, List.getElem?_cons_succ, List.getElem?_cons_zero]; rfl)
        case q2_10b => exact fun _ _ _ h => h
        case y2_10b => (refine Or.inl ⟨by rfl, ?_⟩; intro w hSw; (try dsimp only at hSw); go_simp; try with_reducible rfl)
        try simp only [Act.put, List.setIfInBounds_toArray, List.set_cons_zero, List.set_cons_succ]
        refine wpAnyH_take (i := 3) (oi := ?o3_10b) (v := ?v3_10b) ?ho3_10b (by kernel_rfl) (by kernel_rfl) (by kernel_rfl) ?q3_10b ?y3_10b (by assumption) ?rest3_10b
        case ho3_10b => (simp only [List.getElem?_toArray, List.getElem?_cons_succ, List.getElem?_cons_zero]; rfl)
        case q3_10b => exact fun _ _ _ h => h
        case y3_10b => (refine Or.inl ⟨by rfl, ?_⟩; intro w hSw; (try dsimp only at hSw); go_simp; try with_reducible rfl)
        try simp only [Act.put, List.setIfInBounds_toArray, List.set_cons_zero, List.set_cons_succ]
        refine wpAnyH_take (i := 4) (oi := ?o4_10b) (v := ?v4_10b) ?ho4_10b (by kernel_rfl) (by kernel_rfl) (by kernel_rfl) ?q4_10b ?y4_10b (by assumption) ?rest4_10b
        case ho4_10b => (simp only [List.getElem?_toArray, List.getElem?_cons_succ, List.getElem?_cons_zero]; rfl)
        case q4_10b => exact fun _ _ _ h => h
        case y4_10b => (refine Or.inl ⟨by rfl, ?_⟩; intro w hSw; (try dsimp only at hSw); obtain ⟨qa0, qa1, qa2, qa3, qa4, qa5, qa6, qa7, qa8, qa9, qa10⟩ := hSw.1.cells; go_simp; try with_reducible rfl)
        try simp only [Act.put, List.setIfInBounds_toArray, List.set_cons_zero, List.set_cons_succ]
        refine wpAnyH_take (i := 5) (oi := ?o5_10b) (v := ?v5_10b) ?ho5_10b (by kernel_rfl) (by kernel_rfl) (by kernel_rfl) ?q5_10b ?y5_10b (by assumption) ?rest5_10b
        case ho5_10b => (simp only [List.getElem?_toArray, List.getElem?_cons_succ, List.getElem?_cons_zero]; rfl)
        case q5_10b => exact fun _ _ _ h => h
        case y5_10b => (refine Or.inl ⟨by rfl, ?_⟩; intro w hSw; (try dsimp only at hSw); go_simp; try with_reducible rfl)
        try simp only [Act.put, List.setIfInBounds_toArray, List.set_cons_zero, List.set_cons_succ]
        refine wpAnyH_take (i := 6) (oi := ?o6_10b) (v := ?v6_10b) ?ho6_10b (by kernel_rfl) (by kernel_rfl) (by kernel_rfl) ?q6_10b ?y6_10b (by assumption) ?rest6_10b
        case ho6_10b => (simp only [List.getElem?_toArray, List.getElem?_cons_succ, List.getElem?_cons_zero]; rfl)
        case q6_10b => exact fun _ _ _ h => h
        case y6_10b => (refine Or.inl ⟨by rfl, ?_⟩; intro w hSw; (try dsimp only at hSw); go_simp; try with_reducible rfl)
        try simp only [Act.put, List.setIfInBounds_toArray, List.set_cons_zero, List.set_cons_succ]
        refine wpAnyH_take (i := 7) (oi := ?o7_10b) (v := ?v7_10b) ?ho7_10b (by kernel_rfl) (by kernel_rfl) (by kernel_rfl) ?q7_10b ?y7_10b (by assumption) ?rest7_10b
        case ho7_10b => (simp only [List.getElem?_toArray, List.getElem?_cons_succ, List.getElem?_cons_zero]; rfl)
        case q7_10b => exact fun _ _ _ h => h
        case y7_10b => (refine Or.inl ⟨by rfl, ?_⟩; intro w hSw; (try dsimp only at hSw); go_simp; try with_reducible rfl)
        try simp only [Act.put, List.setIfInBounds_toArray, List.set_cons_zero, List.set_cons_succ]
        refine wpAnyH_take (i := 8) (oi := ?o8_10b) (v := ?v8_10b) ?ho8_10b (by kernel_rfl) (by kernel_rfl) (by kernel_rfl) ?q8_10b ?y8_10b (by assumption) ?rest8_10b
        case ho8_10b => (simp only [List.getElem?_toArray, List.getElem?_cons_succ, List.getElem?_cons_zero]; rfl)
        case q8_10b => exact fun _ _ _ h => h
        case y8_10b => (refine Or.inl ⟨by rfl, ?_⟩; intro w hSw; (try dsimp only at hSw); go_simp; try with_reducible rfl)
        try simp only [Act.put, List.setIfInBounds_toArray, List.set_cons_zero, List.set_cons_succ]
        refine wpAnyH_take (i := 9) (oi := ?o9_10b) (v := ?v9_10b) ?ho9_10b (by kernel_rfl) (by kernel_rfl) (by kernel_rfl) ?q9_10b ?y9_10b (by assumption) ?rest9_10b
        case ho9_10b => (simp only [List.getElem?_toArray, List.getElem?_cons_succ, List.getElem?_cons_zero]; rfl)
        case q9_10b => exact fun _ _ _ h => h
        case y9_10b => (refine Or.inl ⟨by rfl, ?_⟩; intro w hSw; (try dsimp only at hSw); obtain ⟨s0, s1, s2, s3, s4⟩ := HCL.out _ hSw.2.2.2.2.2.2; go_simp; try with_reducible rfl)
        try simp only [Act.put, List.setIfInBounds_toArray, List.set_cons_zero, List.set_cons_succ]
        refine wpAnyH_ready (rs := [10]) (by kernel_rfl) (by simp) (AllReadyH.cons rfl (fun Kx hKx => ?_) AllReadyH.nil)
        go_simp
        refine (HSM.out _ hHeld).mono ?_
        rintro e W7 ⟨rfl, hg7⟩
        have hb10 := hg7
        clear hg7
        try go_wp2_with fail
        refine hKx.out _ _ hb10 (fun hHeld => ?_)
        clear hKx Kx
        try simp only [Act.put, List.setIfInBounds_toArray, List.set_cons_zero, List.set_cons_succ]
        refine wpAnyH_take (i := 11) (oi := ?o11_10b) (v := ?v11_10b) ?ho11_10b (by kernel_rfl) (by kernel_rfl) (by kernel_rfl) ?q11_10b ?y11_10b (by assumption) ?rest11_10b
        case ho11_10b => (simp only [List.getElem?_toArray, List.getElem?_cons_succ, List.getElem?_cons_zero]; rfl)
        case q11_10b => exact fun _ _ _ h => h
        case y11_10b => (refine Or.inl ⟨by rfl, ?_⟩; intro w hSw; (try dsimp only at hSw); go_simp; try with_reducible rfl)
        try simp only [Act.put, List.setIfInBounds_toArray, List.set_cons_zero, List.set_cons_succ]
        refine wpAnyH_take (i := 12) (oi := ?o12_10b) (v := ?v12_10b) ?ho12_10b (by kernel_rfl) (by kernel_rfl) (by kernel_rfl) ?q12_10b ?y12_10b (by assumption) ?rest12_10b
        case ho12_10b => (simp only [List.getElem?_toArray, List.getElem?_cons_succ, List.getElem?_cons_zero]; rfl)
        case q12_10b => exact fun _ _ _ h => h
        case y12_10b => (refine Or.inl ⟨by rfl, ?_⟩; intro w hSw; (try dsimp only at hSw); go_simp; try with_reducible rfl)
        try simp only [Act.put, List.setIfInBounds_toArray, List.set_cons_zero, List.set_cons_succ]
        refine wpAnyH_done (by kernel_rfl) ?_ _
        have HG7 := Lib.hid hHeld
        clear hHeld HSM HG
        go_wp2
        go_roundw
        case rel => exact ⟨k + 1, by omega, by go_num, _, _, _, _, _, _, _, _, HG7.out⟩
        case measure => simp [intOf]; omega
    
    · obtain ⟨_, _, _, _, _, _, hb⟩ := hg
      have HB := Lib.hid hb
      have g1 : ¬ (k : Int) < sl := by omega
      clear hb
      go_wp2_with fail
      refine (awake14_any _).mono ?_
      rintro e w5 ⟨rfl, hb5⟩
      have HB5 : Hid (Below w.heap.size w w5) := HB.out.trans (hb5.mono HB.out.size)
      clear hb5
      go_wp2
      go_ret
      exact ⟨rfl, HB5.out⟩

theorem walk (n : Int) (a : Option Addr) (len cap : Nat) (T Y : Nat → Int) (v : Option Addr) (sl sc : Nat) (F : Nat → Sq) (w : World) (w0 : (Lit.int .i64 n).wf = true) (w1 : IsArr w a len cap T Y) (w2 : IsSqs w v sl F) :
    Calls Try.prog 3 #[.int .i64 n, .slice a len cap, .slice v sl sc] w fun e w' => e = .returned (.bool true) ∧ Below w.heap.size w w' := by
  by_cases h : rightB n = false ∨ 512 < n ∨ 256 < len ∨ ¬ Rises len T ∨ 100 < sl
  · exact no n a len cap T Y v sl sc w w1 w2.1 h
  · have h1 : rightB n = true := by
      cases e : rightB n
      · exact absurd (.inl e) h
      · rfl
    obtain ⟨K, rfl, k1, k2⟩ := rightB_yes h1
    have h2 : ¬ (512 : Int) < 64 * (K : Int) := fun e => h (.inr (.inl e))
    exact yes K a len cap T Y v sl sc F w k1 (by omega) w1 (Nat.le_of_not_lt fun e => h (.inr (.inr (.inl e)))) (Classical.byContradiction fun e => h (.inr (.inr (.inr (.inl e))))) (Nat.le_of_not_lt fun e => h (.inr (.inr (.inr (.inr e))))) w2
end busPlays
end Go.Proofs.Ytkbccccjjlkgbaa
