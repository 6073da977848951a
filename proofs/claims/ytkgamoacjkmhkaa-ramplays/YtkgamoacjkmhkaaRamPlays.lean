/- Layer 10: the walk of RamPlays. -/
import Derived.Test.YtkgamoacjkmhkaaRamStepA
import Derived.Test.YtkgamoacjkmhkaaRamSame
import Derived.Test.YtkgamoacjkmhkaaRamAwake
namespace Go.Proofs.Ytkgamoacjkmhkaa
open Go.RowKit
set_option linter.unusedVariables false
set_option linter.unusedSimpArgs false

theorem SrcB.on {w w' : World} {s : St} (h : SrcB w s) (hb : Below w.heap.size w w') : SrcB w' s := by
  obtain ⟨h1, h2, h3⟩ := h
  refine ⟨h1, h2, ?_⟩
  rcases h3 with h | ⟨b, o, hv, hc⟩
  · exact .inl h
  · exact .inr ⟨b, o, hv, fun i hi => ⟨by rw [hb.cell (World.block_lt_of_cell? w _ (hc i hi).1)]; exact (hc i hi).1, (hc i hi).2⟩⟩
/-- The cells that a round looks at first: the document's memory, and the step. -/
def PlayC (A bl o : Nat) (a c d : Value) (s : St) (w : World) : Prop := Box3 w A a c d ∧ StepC w bl o s
theorem PlayC.bar {A bl o P : Nat} {a c d : Value} {s : St} {w w' : World} (h : PlayC A bl o a c d s w) (hb : Bar P w w') (h1 : A ≠ P) (h2 : bl ≠ P) : PlayC A bl o a c d s w' := by
  obtain ⟨h0, c0, c1, c2, c3, c4⟩ := h
  exact ⟨h0.bar hb h1, hb.cell h2 c0, hb.cell h2 c1, hb.cell h2 c2, hb.cell h2 c3, hb.cell h2 c4⟩
theorem PlayC.on {A bl o : Nat} {a c d : Value} {s : St} {w w' : World} (h : PlayC A bl o a c d s w) (hb : Below w.heap.size w w') : PlayC A bl o a c d s w' := by
  have l1 := (Array.getElem?_eq_some_iff.1 h.1).1
  have l2 := World.block_lt_of_cell? w _ h.2.1
  simp only at l2
  exact h.bar (Bar.of w.heap.size hb) (by omega) (by omega)

theorem RefV.ne_box {w : World} {P K C : Nat} {v x y z : Value} {b : Nat → Int} {wa : Nat → Bool} {g : Nat → Int} (h : RefV w P v K b wa g) (hK : 1 ≤ K) (hb : Box3 w C x y z) (hx : ∃ a n c, x = .slice a n c) : RefW w P C v K b wa g := by
  refine ⟨h, ?_⟩
  obtain ⟨B1, B2, B3, c1, c2, c3, hv, hc, hp, h1, h2, h3⟩ := h
  obtain ⟨a, n, c, rfl⟩ := hx
  have k0 := hb.cells.1
  have k1 := h1 0 (by omega)
  have k2 := h2 0 (by omega)
  have k3 := h3 0 (by omega)
  refine ⟨B1, B2, B3, c1, c2, c3, hv, hc, ⟨fun e => ?_, fun e => ?_, fun e => ?_⟩, h1, h2, h3⟩
  · rw [e, k0] at k1; simp at k1
  · rw [e, k0] at k2; simp at k2
  · rw [e, k0] at k3; simp at k3
def PlayE (w : World) (R P K A : Nat) (t1 t2 t3 s1 s2 s3 : Value) (b : Nat → Int) (wa : Nat → Bool) (g : Nat → Int) (E : Nat) (W : World) : Prop :=
  Box3 W E t1 t2 t3 ∧ Box3 W A s1 s2 s3 ∧ E ≠ A ∧ IsRam W R P K b wa g ∧ RefV W P (.agg #[t1, t2, t3]) K b wa g ∧ Below w.heap.size w W

/-- What the loop keeps. -/
def PlayS (w : World) (R P K A k : Nat) (wr : World) : Prop := ∃ x y z b wa g, Box3 wr A x y z ∧ IsRam wr R P K b wa g ∧ RefV wr P (.agg #[x, y, z]) K b wa g ∧ BdB K b ∧ BdG K g k ∧ Below w.heap.size w wr

namespace ramPlays
set_option maxHeartbeats 800000 in
theorem no (n : Int) (v : Option Addr) (len cap : Nat) (w : World) (hm : len ≤ maxLen) (h : rightB n = false ∨ 1024 < n ∨ 100 < len) :
    Calls Try.prog 4 #[.int .i64 n, .slice v len cap] w fun e w' => e = .returned (.bool true) ∧ Below w.heap.size w w' := by
  unfold maxLen at hm
  cases hr : rightB n
  · have HR : Hid (∀ W : World, Calls Try.prog 8 #[.int .i64 n] W fun e w' => e = .returned (.bool false) ∧ w' = W) := fun W => by rw [← hr]; exact right10_any n W
    clear h hr
    go_enter Try.func4, Try.ntmps4
    go_wp2_with (go_at_call 8; refine (HR.out _).mono ?_; rintro e w' ⟨rfl, hw⟩; have hw := hw.symm; subst hw)
    refine (awake10_any _).mono ?_
    rintro e w1 ⟨rfl, hb⟩
    go_wp2
    go_ret
    exact ⟨rfl, hb⟩
  · have HR : Hid (∀ W : World, Calls Try.prog 8 #[.int .i64 n] W fun e w' => e = .returned (.bool true) ∧ w' = W) := fun W => by rw [← hr]; exact right10_any n W
    rw [hr] at h
    clear hr
    by_cases h1 : 1024 < n
    · clear h
      go_enter Try.func4, Try.ntmps4
      go_wp2_with (go_at_call 8; refine (HR.out _).mono ?_; rintro e w' ⟨rfl, hw⟩; have hw := hw.symm; subst hw)
      refine (awake10_any _).mono ?_
      rintro e w1 ⟨rfl, hb⟩
      go_wp2
      go_ret
      exact ⟨rfl, hb⟩
    · have h2 : 100 < len := by
        rcases h with h | h | h
        · cases h
        · exact absurd h h1
        · exact h
      clear h
      go_enter Try.func4, Try.ntmps4
      go_wp2_with (go_at_call 8; refine (HR.out _).mono ?_; rintro e w' ⟨rfl, hw⟩; have hw := hw.symm; subst hw)
      refine (awake10_any _).mono ?_
      rintro e w1 ⟨rfl, hb⟩
      go_wp2
      go_ret
      exact ⟨rfl, hb⟩

set_option maxHeartbeats 4000000 in
theorem yes (K : Nat) (v : Option Addr) (len cap : Nat) (F : Nat → St) (w : World) (h1 : 1 ≤ K) (hK : K ≤ 16) (hl : len ≤ 100) (hs : IsSteps w v len F) :
    Calls Try.prog 4 #[.int .i64 (64 * (K : Int)), .slice v len cap] w fun e w' => e = .returned (.bool true) ∧ Below w.heap.size w w' := by
  have HN : Hid (∀ W : World, Calls Try.prog 7 #[.int .i64 (64 * (K : Int))] W fun e w' => ∃ R, e = .returned (.tuple #[.pointer (some ⟨R, 0, none⟩), .int .i64 0]) ∧ W.heap.size ≤ R ∧ (∃ P, W.heap.size ≤ P ∧ IsRam w' R P K (fun _ => 0) (fun _ => false) (fun _ => 0)) ∧ Below W.heap.size W w') := fun W => new_yes K W h1 (by omega)
  have HRN : Hid (∀ W : World, Calls Try.prog 13 #[.int .i64 (64 * (K : Int))] W fun e w' => ∃ v, e = .returned v ∧ (∀ P, P < W.heap.size → RefV w' P v K (fun _ => 0) (fun _ => false) (fun _ => 0)) ∧ Below W.heap.size W w') := fun W => rnew10_any K W h1 (by omega)
  have HR : Hid (∀ W : World, Calls Try.prog 8 #[.int .i64 (64 * (K : Int))] W fun e w' => e = .returned (.bool true) ∧ w' = W) := fun W => by
    have := right10_any (64 * (K : Int)) W
    rwa [rightB_t (by omega)] at this
  have HSTEPS := Lib.hid hs
  clear hs
  go_enter Try.func4, Try.ntmps4
  go_wp2_with (go_at_call 8; refine (HR.out _).mono ?_; rintro e w' ⟨rfl, hw⟩; have hw := hw.symm; subst hw)
  refine (HN.out _).mono ?_
  rintro e w1 ⟨R, rfl, hR, ⟨P, hP, hi⟩, hb⟩
  have HI := Lib.hid hi
  have HB := Lib.hid hb
  have HRP : Hid (w.heap.size ≤ R ∧ w.heap.size ≤ P) := ⟨hR, hP⟩
  clear hi hb hR hP
  go_wp2_with fail
  refine (HRN.out _).mono ?_
  rintro e w2 ⟨v2, rfl, hv, hb⟩
  have hr := hv P HI.out.lt.2
  obtain ⟨B1, B2, B3, c1, c2, c3, rfl, _⟩ := id hr
  obtain ⟨w3, hw3⟩ : ∃ w3, w3 = w2.alloc (.cells #[.slice (some ⟨B1, 0, none⟩) (64 * K) c1, .slice (some ⟨B2, 0, none⟩) K c2, .slice (some ⟨B3, 0, none⟩) K c3] 36) := ⟨_, rfl⟩
  have hb3 : Below w2.heap.size w2 w3 := by rw [hw3]; exact (Below.refl _ _).alloc (Nat.le_refl _) _
  obtain ⟨A, hA⟩ : ∃ A, A = w2.heap.size := ⟨_, rfl⟩
  have HS0 : Hid (PlayS w R P K A 0 w3) := ⟨_, _, _, fun _ => 0, fun _ => false, fun _ => 0, by rw [hw3, hA]; exact heap_alloc_new _ _, (HI.out.on hb).on hb3, hr.on hb3, fun _ _ => ⟨Int.le_refl 0, by show (0 : Int) < 256; decide⟩, fun _ _ => ⟨Int.le_refl 0, Int.le_refl 0⟩, (HB.out.trans (hb.mono HB.out.size)).trans (hb3.mono (by have := HB.out.size; have := hb.size; omega))⟩
  have HRA : Hid (R ≠ A) := by have := HI.out.lt.1; have := hb.size; show _ ≠ _; omega
  have HAP : Hid (A ≠ P ∧ w.heap.size ≤ A) := ⟨by have := HI.out.lt.2; have := hb.size; omega, by have := HB.out.size; have := hb.size; omega⟩
  have HW3 := Lib.hid hw3
  have HA := Lib.hid hA
  clear hv hr hb hb3 hw3 hA HN HRN HR
  go_wp2
  rw [← HW3.out, ← HA.out]
  clear HI HB HW3 HA
  go_loopw [8] (fun i wr => ∃ k : Nat, k ≤ len ∧ i = .int .i64 k ∧ PlayS w R P K A k wr) (fun i _ => len - (intOf i).toNat)
  case atStart => exact ⟨0, Nat.zero_le _, rfl, HS0.out⟩
  case round =>
    obtain ⟨k, hk, rfl, x, y, z, b, wa, g, hbox, hi, hr, hbd, hg, hb⟩ := hrel
    by_cases hlt : k < len
    · obtain ⟨_, hst⟩ := HSTEPS.out
      rcases hst with hst | ⟨bl, bo, hva, hst⟩
      · omega
      obtain ⟨hcells, hbds, hsrc⟩ := hst k hlt
      obtain ⟨s, hsF⟩ : ∃ s, F k = s := ⟨_, rfl⟩
      rw [hsF] at hcells hbds hsrc
      clear hst hsF
      subst hva
      obtain ⟨B1, B2, B3, c1, c2, c3, hv, hrest⟩ := id hr
      simp only [Value.agg.injEq, Array.mk.injEq, List.cons.injEq, and_true] at hv
      obtain ⟨rfl, rfl, rfl⟩ := hv
      clear hrest
      have hd : Below wr.heap.size wr wr.drew := (Below.refl _ _).drew
      have lbl : bl < w.heap.size := World.block_lt_of_cell? w _ hcells.1
      have HI1 : Hid (IsRam wr.drew R P K b wa g) := hi.on hd
      have HR1 : Hid (RefV wr.drew P (.agg #[.slice (some ⟨B1, 0, none⟩) (64 * K) c1, .slice (some ⟨B2, 0, none⟩) K c2, .slice (some ⟨B3, 0, none⟩) K c3]) K b wa g) := hr.on hd
      have HSB1 : Hid (SrcB wr.drew s) := hsrc.on hb.drew
      have HPC : Hid (PlayC A bl (bo + k * 5) (.slice (some ⟨B1, 0, none⟩) (64 * K) c1) (.slice (some ⟨B2, 0, none⟩) K c2) (.slice (some ⟨B3, 0, none⟩) K c3) s wr.drew) := by
        refine ⟨hbox.bar (Bar.of wr.heap.size hd) (by have := (Array.getElem?_eq_some_iff.1 hbox).1; omega), ?_⟩
        obtain ⟨e0, e1, e2, e3, e4⟩ := hcells
        have hw := hb.drew
        exact ⟨by rw [hw.cell (p := ⟨bl, _, none⟩) lbl]; exact e0, by rw [hw.cell (p := ⟨bl, _, none⟩) lbl]; exact e1, by rw [hw.cell (p := ⟨bl, _, none⟩) lbl]; exact e2, by rw [hw.cell (p := ⟨bl, _, none⟩) lbl]; exact e3, by rw [hw.cell (p := ⟨bl, _, none⟩) lbl]; exact e4⟩
      have HSRC : Hid (s.sl ≠ 0 → ∀ a, s.sv = some a → a.block ≠ P) := fun h0 a ha => by
        rcases hsrc.2.2 with h | ⟨b0, o0, hv0, hc0⟩
        · exact absurd h h0
        · rw [hv0] at ha
          have := World.block_lt_of_cell? w _ (hc0 0 (by omega)).1
          have e := Option.some.inj ha
          subst e
          have := HRP.out.2
          simp only at *
          omega
      have HNE : Hid (A ≠ P ∧ bl ≠ P) := ⟨HAP.out.1, by have := HRP.out.2; omega⟩
      have HLT1 : Hid (A < wr.drew.heap.size ∧ bl < wr.drew.heap.size ∧ P < wr.drew.heap.size) := ⟨(Array.getElem?_eq_some_iff.1 HPC.out.1).1, World.block_lt_of_cell? _ _ HPC.out.2.1, HI1.out.lt.2⟩
      have HST : Hid (∀ W : World, IsRam W R P K b wa g → RefV W P (.agg #[.slice (some ⟨B1, 0, none⟩) (64 * K) c1, .slice (some ⟨B2, 0, none⟩) K c2, .slice (some ⟨B3, 0, none⟩) K c3]) K b wa g → SrcB W s → Calls Try.prog 14 #[.pointer (some ⟨R, 0, none⟩), .agg #[.slice (some ⟨B1, 0, none⟩) (64 * K) c1, .slice (some ⟨B2, 0, none⟩) K c2, .slice (some ⟨B3, 0, none⟩) K c3], .agg #[.int .i64 s.kind, .int .u32 s.addr, .int .i64 s.n, .int .u32 s.x, .slice s.sv s.sl s.sc]] W fun e w' => ∃ v', e = .returned (.tuple #[v', .bool true]) ∧ StepOut w' R P K v' ((k : Int) + 1) ∧ Bar P W w') := fun W q1 q2 q3 =>
        step_any R P K b wa g k _ s W h1 (by omega) q1 q2 hbd hg (by omega) hbds q3 HSRC.out
      have HBW : Hid (Below w.heap.size w wr.drew) := hb.drew
      have hi0 : (0 : Int) ≤ (k : Int) := by omega
      have hiK : (k : Int) < len := by omega
      clear hd hcells hbds hsrc hbox hi hr hbd hg hb lbl HS0
      go_wp2_with fail
      refine wp_region_held_drew (S := PlayC A bl (bo + k * 5) (.slice (some ⟨B1, 0, none⟩) (64 * K) c1) (.slice (some ⟨B2, 0, none⟩) K c2) (.slice (some ⟨B3, 0, none⟩) K c3) s) (by kernel_rfl) (HPC.out) (fun hHeld => ?_)
      generalize wr.drew = wd at *
      refine wpAnyH_take (i := 0) (oi := ?o0_10) (v := ?v0_10) ?ho0_10 (by kernel_rfl) (by kernel_rfl) (by kernel_rfl) ?q0_10 ?y0_10 (by assumption) ?rest0_10
      case ho0_10 => (simp only [List.getElem?_toArray, List.getElem?_cons_succ, List.getElem?_cons_zero]; rfl)
      case q0_10 => exact fun _ _ _ h => h
      case y0_10 => (refine Or.inl ⟨by rfl, ?_⟩; intro w hSw; (try dsimp only at hSw); go_simp; try with_reducible rfl)
      try simp only [Act.put, List.setIfInBounds_toArray, List.set_cons_zero, List.set_cons_succ]
      refine wpAnyH_take (i := 1) (oi := ?o1_10) (v := ?v1_10) ?ho1_10 (by kernel_rfl) (by kernel_rfl) (by kernel_rfl) ?q1_10 ?y1_10 (by assumption) ?rest1_10
      case ho1_10 => (simp only [List.getElem?_toArray, List.getElem?_cons_succ, List.getElem?_cons_zero]; rfl)
      case q1_10 => exact fun _ _ _ h => h
      case y1_10 => (refine Or.inl ⟨by rfl, ?_⟩; intro w hSw; (try dsimp only at hSw); obtain ⟨qa, qb, qc⟩ := hSw.1.cells; go_simp; try with_reducible rfl)
      try simp only [Act.put, List.setIfInBounds_toArray, List.set_cons_zero, List.set_cons_succ]
      refine wpAnyH_take (i := 2) (oi := ?o2_10) (v := ?v2_10) ?ho2_10 (by kernel_rfl) (by kernel_rfl) (by kernel_rfl) ?q2_10 ?y2_10 (by assumption) ?rest2_10
      case ho2_10 => (simp only [List.getElem?_toArray, List.getElem?_cons_succ, List.getElem?_cons_zero]; rfl)
      case q2_10 => exact fun _ _ _ h => h
      case y2_10 => (refine Or.inl ⟨by rfl, ?_⟩; intro w hSw; (try dsimp only at hSw); go_simp; try with_reducible rfl)
      try simp only [Act.put, List.setIfInBounds_toArray, List.set_cons_zero, List.set_cons_succ]
      refine wpAnyH_take (i := 3) (oi := ?o3_10) (v := ?v3_10) ?ho3_10 (by kernel_rfl) (by kernel_rfl) (by kernel_rfl) ?q3_10 ?y3_10 (by assumption) ?rest3_10
      case ho3_10 => (simp only [List.getElem?_toArray, List.getElem?_cons_succ, List.getElem?_cons_zero]; rfl)
      case q3_10 => exact fun _ _ _ h => h
      case y3_10 => (refine Or.inl ⟨by rfl, ?_⟩; intro w hSw; (try dsimp only at hSw); go_simp; try with_reducible rfl)
      try simp only [Act.put, List.setIfInBounds_toArray, List.set_cons_zero, List.set_cons_succ]
      refine wpAnyH_take (i := 4) (oi := ?o4_10) (v := ?v4_10) ?ho4_10 (by kernel_rfl) (by kernel_rfl) (by kernel_rfl) ?q4_10 ?y4_10 (by assumption) ?rest4_10
      case ho4_10 => (simp only [List.getElem?_toArray, List.getElem?_cons_succ, List.getElem?_cons_zero]; rfl)
      case q4_10 => exact fun _ _ _ h => h
      case y4_10 => (refine Or.inl ⟨by rfl, ?_⟩; intro w hSw; (try dsimp only at hSw); go_simp; try with_reducible rfl)
      try simp only [Act.put, List.setIfInBounds_toArray, List.set_cons_zero, List.set_cons_succ]
      refine wpAnyH_take (i := 5) (oi := ?o5_10) (v := ?v5_10) ?ho5_10 (by kernel_rfl) (by kernel_rfl) (by kernel_rfl) ?q5_10 ?y5_10 (by assumption) ?rest5_10
      case ho5_10 => (simp only [List.getElem?_toArray, List.getElem?_cons_succ, List.getElem?_cons_zero]; rfl)
      case q5_10 => exact fun _ _ _ h => h
      case y5_10 => (refine Or.inl ⟨by rfl, ?_⟩; intro w hSw; (try dsimp only at hSw); obtain ⟨qd, qe, qf, qg, qh⟩ := hSw.2; go_simp; try with_reducible rfl)
      try simp only [Act.put, List.setIfInBounds_toArray, List.set_cons_zero, List.set_cons_succ]
      refine wpAnyH_ready (rs := [6, 10]) (by kernel_rfl) (by simp) (AllReadyH.cons rfl (fun Kx hKx => ?b6_10) (AllReadyH.cons rfl (fun Kx hKx => ?b10_10) AllReadyH.nil))
      case b6_10 =>
        go_simp
        refine (HST.out _ ?_ ?_ ?_).mono ?_
        first | exact HI1.out | exact HI2.out
        first | exact HR1.out | exact HR2.out
        first | exact HSB1.out | exact HSB2.out
        rintro e W2 ⟨v', rfl, hout, hbar⟩
        have hb6 := hHeld.bar hbar HNE.out.1 HNE.out.2
        obtain ⟨b', wa', g', hi', hr', hbd', hg'⟩ := hout
        obtain ⟨D1, D2, D3, d1, d2, d3, rfl, hrest⟩ := id hr'
        clear hrest
        have HI' := Lib.hid hi'
        have HR' := Lib.hid hr'
        have HBD' := Lib.hid hbd'
        have HG' := Lib.hid hg'
        have HBAR := Lib.hid hbar
        clear hi' hr' hbd' hg' hbar
        try go_wp2_with fail
        refine hKx.out _ _ hb6 (fun hHeld => ?_)
        clear hKx Kx
        try simp only [Act.put, List.setIfInBounds_toArray, List.set_cons_zero, List.set_cons_succ]
        refine wpAnyH_take (i := 7) (oi := ?o7_10_6) (v := ?v7_10_6) ?ho7_10_6 (by kernel_rfl) (by kernel_rfl) (by kernel_rfl) ?q7_10_6 ?y7_10_6 (by assumption) ?rest7_10_6
        case ho7_10_6 => (simp only [List.getElem?_toArray, List.getElem?_cons_succ, List.getElem?_cons_zero]; rfl)
        case q7_10_6 => exact fun _ _ _ h => h
        case y7_10_6 => (refine Or.inl ⟨by rfl, ?_⟩; intro w hSw; (try dsimp only at hSw); go_simp; try with_reducible rfl)
        try simp only [Act.put, List.setIfInBounds_toArray, List.set_cons_zero, List.set_cons_succ]
        refine wpAnyH_take (i := 8) (oi := ?o8_10_6) (v := ?v8_10_6) ?ho8_10_6 (by kernel_rfl) (by kernel_rfl) (by kernel_rfl) ?q8_10_6 ?y8_10_6 (by assumption) ?rest8_10_6
        case ho8_10_6 => (simp only [List.getElem?_toArray, List.getElem?_cons_succ, List.getElem?_cons_zero]; rfl)
        case q8_10_6 => exact fun _ _ _ h => h
        case y8_10_6 => (refine Or.inl ⟨by rfl, ?_⟩; intro w hSw; (try dsimp only at hSw); go_simp; try with_reducible rfl)
        try simp only [Act.put, List.setIfInBounds_toArray, List.set_cons_zero, List.set_cons_succ]
        refine wpAnyH_take (i := 9) (oi := ?o9_10_6) (v := ?v9_10_6) ?ho9_10_6 (by kernel_rfl) (by kernel_rfl) (by kernel_rfl) ?q9_10_6 ?y9_10_6 (by assumption) ?rest9_10_6
        case ho9_10_6 => (simp only [List.getElem?_toArray, List.getElem?_cons_succ, List.getElem?_cons_zero]; rfl)
        case q9_10_6 => exact fun _ _ _ h => h
        case y9_10_6 => (refine Or.inl ⟨by rfl, ?_⟩; intro w hSw; (try dsimp only at hSw); go_simp; try with_reducible rfl)
        try simp only [Act.put, List.setIfInBounds_toArray, List.set_cons_zero, List.set_cons_succ]
        refine wpAnyH_ready (rs := [10]) (by kernel_rfl) (by simp) (AllReadyH.cons rfl (fun Kx hKx => ?_) AllReadyH.nil)
        go_simp
        first
        | (refine hKx.out _ _ (hHeld.on ((Below.refl _ _).alloc (Nat.le_refl _) _)) (fun hHeld => ?_))
        first
        | (have HBE : Hid (Box3 (W2.alloc (.cells #[.slice none 0 0, .slice none 0 0, .slice none 0 0] 36)) W2.heap.size (.slice none 0 0) (.slice none 0 0) (.slice none 0 0) ∧ Below W2.heap.size W2 (W2.alloc (.cells #[.slice none 0 0, .slice none 0 0, .slice none 0 0] 36))) := ⟨heap_alloc_new _ _, (Below.refl _ _).alloc (Nat.le_refl _) _⟩)
        | (have HBE : Hid (Box3 (wd.alloc (.cells #[.slice none 0 0, .slice none 0 0, .slice none 0 0] 36)) wd.heap.size (.slice none 0 0) (.slice none 0 0) (.slice none 0 0) ∧ Below wd.heap.size wd (wd.alloc (.cells #[.slice none 0 0, .slice none 0 0, .slice none 0 0] 36))) := ⟨heap_alloc_new _ _, (Below.refl _ _).alloc (Nat.le_refl _) _⟩
           have HI2 : Hid (IsRam (wd.alloc (.cells #[.slice none 0 0, .slice none 0 0, .slice none 0 0] 36)) R P K b wa g) := HI1.out.on HBE.out.2
           have HR2 : Hid (RefV (wd.alloc (.cells #[.slice none 0 0, .slice none 0 0, .slice none 0 0] 36)) P (.agg #[.slice (some ⟨B1, 0, none⟩) (64 * K) c1, .slice (some ⟨B2, 0, none⟩) K c2, .slice (some ⟨B3, 0, none⟩) K c3]) K b wa g) := HR1.out.on HBE.out.2
           have HSB2 : Hid (SrcB (wd.alloc (.cells #[.slice none 0 0, .slice none 0 0, .slice none 0 0] 36)) s) := HSB1.out.on HBE.out.2)
        clear hKx Kx
        try simp only [Act.put, List.setIfInBounds_toArray, List.set_cons_zero, List.set_cons_succ]
        refine wpAnyH_ready (rs := [11]) (by kernel_rfl) (by simp) (AllReadyH.cons rfl (fun Kx hKx => ?_) AllReadyH.nil)
        first
        | (have HX : Hid (Box3 (W2.alloc (.cells #[.slice none 0 0, .slice none 0 0, .slice none 0 0] 36)) W2.heap.size (.slice none 0 0) (.slice none 0 0) (.slice none 0 0)) := HBE.out.1
           obtain ⟨⟨t0, t1, t2⟩, u0, u1, u2⟩ := three_cells HX.out
           have hb11 : PlayC A bl (bo + k * 5) (.slice (some ⟨B1, 0, none⟩) (64 * K) c1) (.slice (some ⟨B2, 0, none⟩) K c2) (.slice (some ⟨B3, 0, none⟩) K c3) s (W2.alloc (.cells #[(.slice (some ⟨D1, 0, none⟩) (64 * K) d1), (.slice (some ⟨D2, 0, none⟩) K d2), (.slice (some ⟨D3, 0, none⟩) K d3)] 36)) := hb6.on ((Below.refl _ _).alloc (Nat.le_refl _) _)
           go_simp
           refine hKx.out _ _ hb11 (fun hHeld => ?_))
        | (have HX : Hid (Box3 W2 wd.heap.size (.slice none 0 0) (.slice none 0 0) (.slice none 0 0)) := HBE.out.1.bar HBAR.out (by have := HLT1.out; omega)
           obtain ⟨⟨t0, t1, t2⟩, u0, u1, u2⟩ := three_cells HX.out
           have hb11 := hHeld.bar (bar3 wd.heap.size W2 (.slice (some ⟨D1, 0, none⟩) (64 * K) d1) (.slice (some ⟨D2, 0, none⟩) K d2) (.slice (some ⟨D3, 0, none⟩) K d3)) (by have := HLT1.out; omega) (by have := HLT1.out; omega)
           go_simp
           refine hKx.out _ _ hb11 (fun hHeld => ?_))
        clear hKx Kx hb11
        refine wpAnyH_take (i := 12) (oi := ?o12_10_6) (v := ?v12_10_6) ?ho12_10_6 (by kernel_rfl) (by kernel_rfl) (by kernel_rfl) ?q12_10_6 ?y12_10_6 (by assumption) ?rest12_10_6
        case ho12_10_6 => (simp only [List.getElem?_toArray, List.getElem?_cons_succ, List.getElem?_cons_zero]; rfl)
        case q12_10_6 => exact fun _ _ _ h => h
        case y12_10_6 => (refine Or.inl ⟨by rfl, ?_⟩; intro w hSw; (try dsimp only at hSw); go_simp; try with_reducible rfl)
        try simp only [Act.put, List.setIfInBounds_toArray, List.set_cons_zero, List.set_cons_succ]
        refine wpAnyH_done (by kernel_rfl) ?_ _
        have HF := Lib.hid hHeld
        clear hHeld
        first
        | (have hE : PlayE w R P K A (.slice (some ⟨D1, 0, none⟩) (64 * K) d1) (.slice (some ⟨D2, 0, none⟩) K d2) (.slice (some ⟨D3, 0, none⟩) K d3) (.slice (some ⟨B1, 0, none⟩) (64 * K) c1) (.slice (some ⟨B2, 0, none⟩) K c2) (.slice (some ⟨B3, 0, none⟩) K c3) b' wa' g' W2.heap.size (W2.alloc (.cells #[(.slice (some ⟨D1, 0, none⟩) (64 * K) d1), (.slice (some ⟨D2, 0, none⟩) K d2), (.slice (some ⟨D3, 0, none⟩) K d3)] 36)) :=
             ⟨heap_alloc_new _ _, HF.out.1, by have := HBAR.out.size; have := HLT1.out; omega, HI'.out.on ((Below.refl _ _).alloc (Nat.le_refl _) _), HR'.out.on ((Below.refl _ _).alloc (Nat.le_refl _) _), (HBW.out.trans (HBAR.out.below HRP.out.2 HBW.out.size)).alloc (by have := HBW.out.size; have := HBAR.out.size; omega) _⟩
           have HE := Lib.hid hE
           clear hE HX HBE HF t0 t1 t2 u0 u1 u2 hb6
           generalize W2.alloc (.cells #[(.slice (some ⟨D1, 0, none⟩) (64 * K) d1), (.slice (some ⟨D2, 0, none⟩) K d2), (.slice (some ⟨D3, 0, none⟩) K d3)] 36) = W5 at *
           generalize W2.heap.size = E at *)
        | (have hE : PlayE w R P K A (.slice (some ⟨D1, 0, none⟩) (64 * K) d1) (.slice (some ⟨D2, 0, none⟩) K d2) (.slice (some ⟨D3, 0, none⟩) K d3) (.slice (some ⟨B1, 0, none⟩) (64 * K) c1) (.slice (some ⟨B2, 0, none⟩) K c2) (.slice (some ⟨B3, 0, none⟩) K c3) b' wa' g' wd.heap.size (((W2.setCell ⟨wd.heap.size, 0, none⟩ (.slice (some ⟨D1, 0, none⟩) (64 * K) d1)).setCell ⟨wd.heap.size, 1, none⟩ (.slice (some ⟨D2, 0, none⟩) K d2)).setCell ⟨wd.heap.size, 2, none⟩ (.slice (some ⟨D3, 0, none⟩) K d3)) :=
             ⟨heap_setCell_at (heap_setCell_at (heap_setCell_at HX.out)), HF.out.1, by have := HLT1.out; omega, HI'.out.bar (bar3 _ _ _ _ _) (by have := HI1.out.lt; omega) (by have := HI1.out.lt; omega), (HR'.out.ne_box h1 HX.out ⟨_, _, _, rfl⟩).barC (bar3 _ _ _ _ _), three_set ((HBW.out.trans (Below.mono HBE.out.2 HBW.out.size)).trans (HBAR.out.below HRP.out.2 (by have := HBW.out.size; have := HBE.out.2.size; omega))) (by have := HBW.out.size; omega)⟩
           have HE := Lib.hid hE
           clear hE HX HBE HF t0 t1 t2 u0 u1 u2 hb6 HI2 HR2 HSB2
           generalize (((W2.setCell ⟨wd.heap.size, 0, none⟩ (.slice (some ⟨D1, 0, none⟩) (64 * K) d1)).setCell ⟨wd.heap.size, 1, none⟩ (.slice (some ⟨D2, 0, none⟩) K d2)).setCell ⟨wd.heap.size, 2, none⟩ (.slice (some ⟨D3, 0, none⟩) K d3)) = W5 at *
           generalize wd.heap.size = E at *)
        obtain ⟨⟨t0, t1, t2⟩, -⟩ := three_cells HE.out.1
        obtain ⟨⟨r0, r1, r2⟩, v0, v1, v2⟩ := three_cells HE.out.2.1
        have n1 : E ≠ A := HE.out.2.2.1
        have n2 : A ≠ E := n1.symm
        have HS2 : Hid (PlayS w R P K A (k + 1) (((W5.setCell ⟨A, 0, none⟩ (.slice (some ⟨D1, 0, none⟩) (64 * K) d1)).setCell ⟨A, 1, none⟩ (.slice (some ⟨D2, 0, none⟩) K d2)).setCell ⟨A, 2, none⟩ (.slice (some ⟨D3, 0, none⟩) K d3))) := by
          obtain ⟨e1, e2, e3, e4, e5, e6⟩ := HE.out
          refine ⟨_, _, _, b', wa', g', heap_setCell_at (heap_setCell_at (heap_setCell_at e2)), e4.bar (bar3 _ _ _ _ _) HRA.out (Ne.symm HNE.out.1), (e5.ne_box h1 e2 ⟨_, _, _, rfl⟩).barC (bar3 _ _ _ _ _), HBD'.out, ?_, three_set e6 HAP.out.2⟩
          exact HG'.out.up (by omega)
        clear HE HBAR HI' HR' HBD' HG' HI1 HR1 HSB1 HPC HLT1 HST HBW
        go_wp2
        go_roundw
        case rel => exact ⟨k + 1, by omega, by go_num, HS2.out⟩
        case measure => simp [intOf]; omega
      case b10_10 =>
        go_simp
        first
        | (refine hKx.out _ _ (hHeld.on ((Below.refl _ _).alloc (Nat.le_refl _) _)) (fun hHeld => ?_))
        first
        | (have HBE : Hid (Box3 (W2.alloc (.cells #[.slice none 0 0, .slice none 0 0, .slice none 0 0] 36)) W2.heap.size (.slice none 0 0) (.slice none 0 0) (.slice none 0 0) ∧ Below W2.heap.size W2 (W2.alloc (.cells #[.slice none 0 0, .slice none 0 0, .slice none 0 0] 36))) := ⟨heap_alloc_new _ _, (Below.refl _ _).alloc (Nat.le_refl _) _⟩)
        | (have HBE : Hid (Box3 (wd.alloc (.cells #[.slice none 0 0, .slice none 0 0, .slice none 0 0] 36)) wd.heap.size (.slice none 0 0) (.slice none 0 0) (.slice none 0 0) ∧ Below wd.heap.size wd (wd.alloc (.cells #[.slice none 0 0, .slice none 0 0, .slice none 0 0] 36))) := ⟨heap_alloc_new _ _, (Below.refl _ _).alloc (Nat.le_refl _) _⟩
           have HI2 : Hid (IsRam (wd.alloc (.cells #[.slice none 0 0, .slice none 0 0, .slice none 0 0] 36)) R P K b wa g) := HI1.out.on HBE.out.2
           have HR2 : Hid (RefV (wd.alloc (.cells #[.slice none 0 0, .slice none 0 0, .slice none 0 0] 36)) P (.agg #[.slice (some ⟨B1, 0, none⟩) (64 * K) c1, .slice (some ⟨B2, 0, none⟩) K c2, .slice (some ⟨B3, 0, none⟩) K c3]) K b wa g) := HR1.out.on HBE.out.2
           have HSB2 : Hid (SrcB (wd.alloc (.cells #[.slice none 0 0, .slice none 0 0, .slice none 0 0] 36)) s) := HSB1.out.on HBE.out.2)
        clear hKx Kx
        try simp only [Act.put, List.setIfInBounds_toArray, List.set_cons_zero, List.set_cons_succ]
        refine wpAnyH_ready (rs := [6]) (by kernel_rfl) (by simp) (AllReadyH.cons rfl (fun Kx hKx => ?_) AllReadyH.nil)
        go_simp
        refine (HST.out _ ?_ ?_ ?_).mono ?_
        first | exact HI1.out | exact HI2.out
        first | exact HR1.out | exact HR2.out
        first | exact HSB1.out | exact HSB2.out
        rintro e W2 ⟨v', rfl, hout, hbar⟩
        have hb6 := hHeld.bar hbar HNE.out.1 HNE.out.2
        obtain ⟨b', wa', g', hi', hr', hbd', hg'⟩ := hout
        obtain ⟨D1, D2, D3, d1, d2, d3, rfl, hrest⟩ := id hr'
        clear hrest
        have HI' := Lib.hid hi'
        have HR' := Lib.hid hr'
        have HBD' := Lib.hid hbd'
        have HG' := Lib.hid hg'
        have HBAR := Lib.hid hbar
        clear hi' hr' hbd' hg' hbar
        try go_wp2_with fail
        refine hKx.out _ _ hb6 (fun hHeld => ?_)
        clear hKx Kx
        try simp only [Act.put, List.setIfInBounds_toArray, List.set_cons_zero, List.set_cons_succ]
        refine wpAnyH_take (i := 7) (oi := ?o7_10_10) (v := ?v7_10_10) ?ho7_10_10 (by kernel_rfl) (by kernel_rfl) (by kernel_rfl) ?q7_10_10 ?y7_10_10 (by assumption) ?rest7_10_10
        case ho7_10_10 => (simp only [List.getElem?_toArray, List.getElem?_cons_succ, List.getElem?_cons_zero]; rfl)
        case q7_10_10 => exact fun _ _ _ h => h
        case y7_10_10 => (refine Or.inl ⟨by rfl, ?_⟩; intro w hSw; (try dsimp only at hSw); go_simp; try with_reducible rfl)
        try simp only [Act.put, List.setIfInBounds_toArray, List.set_cons_zero, List.set_cons_succ]
        refine wpAnyH_take (i := 8) (oi := ?o8_10_10) (v := ?v8_10_10) ?ho8_10_10 (by kernel_rfl) (by kernel_rfl) (by kernel_rfl) ?q8_10_10 ?y8_10_10 (by assumption) ?rest8_10_10
        case ho8_10_10 => (simp only [List.getElem?_toArray, List.getElem?_cons_succ, List.getElem?_cons_zero]; rfl)
        case q8_10_10 => exact fun _ _ _ h => h
        case y8_10_10 => (refine Or.inl ⟨by rfl, ?_⟩; intro w hSw; (try dsimp only at hSw); go_simp; try with_reducible rfl)
        try simp only [Act.put, List.setIfInBounds_toArray, List.set_cons_zero, List.set_cons_succ]
        refine wpAnyH_take (i := 9) (oi := ?o9_10_10) (v := ?v9_10_10) ?ho9_10_10 (by kernel_rfl) (by kernel_rfl) (by kernel_rfl) ?q9_10_10 ?y9_10_10 (by assumption) ?rest9_10_10
        case ho9_10_10 => (simp only [List.getElem?_toArray, List.getElem?_cons_succ, List.getElem?_cons_zero]; rfl)
        case q9_10_10 => exact fun _ _ _ h => h
        case y9_10_10 => (refine Or.inl ⟨by rfl, ?_⟩; intro w hSw; (try dsimp only at hSw); go_simp; try with_reducible rfl)
        try simp only [Act.put, List.setIfInBounds_toArray, List.set_cons_zero, List.set_cons_succ]
        refine wpAnyH_ready (rs := [11]) (by kernel_rfl) (by simp) (AllReadyH.cons rfl (fun Kx hKx => ?_) AllReadyH.nil)
        first
        | (have HX : Hid (Box3 (W2.alloc (.cells #[.slice none 0 0, .slice none 0 0, .slice none 0 0] 36)) W2.heap.size (.slice none 0 0) (.slice none 0 0) (.slice none 0 0)) := HBE.out.1
           obtain ⟨⟨t0, t1, t2⟩, u0, u1, u2⟩ := three_cells HX.out
           have hb11 : PlayC A bl (bo + k * 5) (.slice (some ⟨B1, 0, none⟩) (64 * K) c1) (.slice (some ⟨B2, 0, none⟩) K c2) (.slice (some ⟨B3, 0, none⟩) K c3) s (W2.alloc (.cells #[(.slice (some ⟨D1, 0, none⟩) (64 * K) d1), (.slice (some ⟨D2, 0, none⟩) K d2), (.slice (some ⟨D3, 0, none⟩) K d3)] 36)) := hb6.on ((Below.refl _ _).alloc (Nat.le_refl _) _)
           go_simp
           refine hKx.out _ _ hb11 (fun hHeld => ?_))
        | (have HX : Hid (Box3 W2 wd.heap.size (.slice none 0 0) (.slice none 0 0) (.slice none 0 0)) := HBE.out.1.bar HBAR.out (by have := HLT1.out; omega)
           obtain ⟨⟨t0, t1, t2⟩, u0, u1, u2⟩ := three_cells HX.out
           have hb11 := hHeld.bar (bar3 wd.heap.size W2 (.slice (some ⟨D1, 0, none⟩) (64 * K) d1) (.slice (some ⟨D2, 0, none⟩) K d2) (.slice (some ⟨D3, 0, none⟩) K d3)) (by have := HLT1.out; omega) (by have := HLT1.out; omega)
           go_simp
           refine hKx.out _ _ hb11 (fun hHeld => ?_))
        clear hKx Kx hb11
        refine wpAnyH_take (i := 12) (oi := ?o12_10_10) (v := ?v12_10_10) ?ho12_10_10 (by kernel_rfl) (by kernel_rfl) (by kernel_rfl) ?q12_10_10 ?y12_10_10 (by assumption) ?rest12_10_10
        case ho12_10_10 => (simp only [List.getElem?_toArray, List.getElem?_cons_succ, List.getElem?_cons_zero]; rfl)
        case q12_10_10 => exact fun _ _ _ h => h
        case y12_10_10 => (refine Or.inl ⟨by rfl, ?_⟩; intro w hSw; (try dsimp only at hSw); go_simp; try with_reducible rfl)
        try simp only [Act.put, List.setIfInBounds_toArray, List.set_cons_zero, List.set_cons_succ]
        refine wpAnyH_done (by kernel_rfl) ?_ _
        have HF := Lib.hid hHeld
        clear hHeld
        first
        | (have hE : PlayE w R P K A (.slice (some ⟨D1, 0, none⟩) (64 * K) d1) (.slice (some ⟨D2, 0, none⟩) K d2) (.slice (some ⟨D3, 0, none⟩) K d3) (.slice (some ⟨B1, 0, none⟩) (64 * K) c1) (.slice (some ⟨B2, 0, none⟩) K c2) (.slice (some ⟨B3, 0, none⟩) K c3) b' wa' g' W2.heap.size (W2.alloc (.cells #[(.slice (some ⟨D1, 0, none⟩) (64 * K) d1), (.slice (some ⟨D2, 0, none⟩) K d2), (.slice (some ⟨D3, 0, none⟩) K d3)] 36)) :=
             ⟨heap_alloc_new _ _, HF.out.1, by have := HBAR.out.size; have := HLT1.out; omega, HI'.out.on ((Below.refl _ _).alloc (Nat.le_refl _) _), HR'.out.on ((Below.refl _ _).alloc (Nat.le_refl _) _), (HBW.out.trans (HBAR.out.below HRP.out.2 HBW.out.size)).alloc (by have := HBW.out.size; have := HBAR.out.size; omega) _⟩
           have HE := Lib.hid hE
           clear hE HX HBE HF t0 t1 t2 u0 u1 u2 hb6
           generalize W2.alloc (.cells #[(.slice (some ⟨D1, 0, none⟩) (64 * K) d1), (.slice (some ⟨D2, 0, none⟩) K d2), (.slice (some ⟨D3, 0, none⟩) K d3)] 36) = W5 at *
           generalize W2.heap.size = E at *)
        | (have hE : PlayE w R P K A (.slice (some ⟨D1, 0, none⟩) (64 * K) d1) (.slice (some ⟨D2, 0, none⟩) K d2) (.slice (some ⟨D3, 0, none⟩) K d3) (.slice (some ⟨B1, 0, none⟩) (64 * K) c1) (.slice (some ⟨B2, 0, none⟩) K c2) (.slice (some ⟨B3, 0, none⟩) K c3) b' wa' g' wd.heap.size (((W2.setCell ⟨wd.heap.size, 0, none⟩ (.slice (some ⟨D1, 0, none⟩) (64 * K) d1)).setCell ⟨wd.heap.size, 1, none⟩ (.slice (some ⟨D2, 0, none⟩) K d2)).setCell ⟨wd.heap.size, 2, none⟩ (.slice (some ⟨D3, 0, none⟩) K d3)) :=
             ⟨heap_setCell_at (heap_setCell_at (heap_setCell_at HX.out)), HF.out.1, by have := HLT1.out; omega, HI'.out.bar (bar3 _ _ _ _ _) (by have := HI1.out.lt; omega) (by have := HI1.out.lt; omega), (HR'.out.ne_box h1 HX.out ⟨_, _, _, rfl⟩).barC (bar3 _ _ _ _ _), three_set ((HBW.out.trans (Below.mono HBE.out.2 HBW.out.size)).trans (HBAR.out.below HRP.out.2 (by have := HBW.out.size; have := HBE.out.2.size; omega))) (by have := HBW.out.size; omega)⟩
           have HE := Lib.hid hE
           clear hE HX HBE HF t0 t1 t2 u0 u1 u2 hb6 HI2 HR2 HSB2
           generalize (((W2.setCell ⟨wd.heap.size, 0, none⟩ (.slice (some ⟨D1, 0, none⟩) (64 * K) d1)).setCell ⟨wd.heap.size, 1, none⟩ (.slice (some ⟨D2, 0, none⟩) K d2)).setCell ⟨wd.heap.size, 2, none⟩ (.slice (some ⟨D3, 0, none⟩) K d3)) = W5 at *
           generalize wd.heap.size = E at *)
        obtain ⟨⟨t0, t1, t2⟩, -⟩ := three_cells HE.out.1
        obtain ⟨⟨r0, r1, r2⟩, v0, v1, v2⟩ := three_cells HE.out.2.1
        have n1 : E ≠ A := HE.out.2.2.1
        have n2 : A ≠ E := n1.symm
        have HS2 : Hid (PlayS w R P K A (k + 1) (((W5.setCell ⟨A, 0, none⟩ (.slice (some ⟨D1, 0, none⟩) (64 * K) d1)).setCell ⟨A, 1, none⟩ (.slice (some ⟨D2, 0, none⟩) K d2)).setCell ⟨A, 2, none⟩ (.slice (some ⟨D3, 0, none⟩) K d3))) := by
          obtain ⟨e1, e2, e3, e4, e5, e6⟩ := HE.out
          refine ⟨_, _, _, b', wa', g', heap_setCell_at (heap_setCell_at (heap_setCell_at e2)), e4.bar (bar3 _ _ _ _ _) HRA.out (Ne.symm HNE.out.1), (e5.ne_box h1 e2 ⟨_, _, _, rfl⟩).barC (bar3 _ _ _ _ _), HBD'.out, ?_, three_set e6 HAP.out.2⟩
          exact HG'.out.up (by omega)
        clear HE HBAR HI' HR' HBD' HG' HI1 HR1 HSB1 HPC HLT1 HST HBW
        go_wp2
        go_roundw
        case rel => exact ⟨k + 1, by omega, by go_num, HS2.out⟩
        case measure => simp [intOf]; omega
    
    · obtain ⟨B1, B2, B3, c1, c2, c3, hv, hrest⟩ := id hr
      simp only [Value.agg.injEq, Array.mk.injEq, List.cons.injEq, and_true] at hv
      obtain ⟨rfl, rfl, rfl⟩ := hv
      clear hrest
      obtain ⟨⟨t0, t1, t2⟩, -⟩ := three_cells hbox
      have HSM : Hid (Calls Try.prog 15 #[.pointer (some ⟨R, 0, none⟩), .agg #[.slice (some ⟨B1, 0, none⟩) (64 * K) c1, .slice (some ⟨B2, 0, none⟩) K c2, .slice (some ⟨B3, 0, none⟩) K c3]] wr fun e w' => e = .returned (.bool true) ∧ Below wr.heap.size wr w') := same10_any R P K b wa g _ wr h1 (by omega) hi hr
      have HB := Lib.hid hb
      clear hbox hi hr hbd hg hb
      go_wp2_with fail
      refine Calls.mono (Hid.out HSM) ?_
      rintro e w4 ⟨rfl, hb4⟩
      have HB4 : Hid (Below w.heap.size w w4) := HB.out.trans (hb4.mono HB.out.size)
      clear hb4
      go_wp2_with fail
      refine (awake10_any _).mono ?_
      rintro e w5 ⟨rfl, hb5⟩
      have HB5 : Hid (Below w.heap.size w w5) := HB4.out.trans (hb5.mono HB4.out.size)
      clear hb5
      go_wp2
      go_ret
      exact ⟨rfl, HB5.out⟩

theorem walk (n : Int) (v : Option Addr) (len cap : Nat) (F : Nat → St) (w : World) (w0 : (Lit.int .i64 n).wf = true) (w1 : IsSteps w v len F) :
    Calls Try.prog 4 #[.int .i64 n, .slice v len cap] w fun e w' => e = .returned (.bool true) ∧ Below w.heap.size w w' := by
  by_cases h : rightB n = false ∨ 1024 < n ∨ 100 < len
  · exact no n v len cap w w1.1 h
  · have hr : rightB n = true := by
      cases hh : rightB n
      · exact absurd (.inl hh) h
      · rfl
    obtain ⟨K, rfl, h1, h2⟩ := rightB_yes hr
    exact yes K v len cap F w h1 (by omega) (by omega) w1
end ramPlays
end Go.Proofs.Ytkgamoacjkmhkaa
