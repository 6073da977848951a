/- Layer 12: the walk of ConsolePlays. (By gen-conplays.py.) -/
import Derived.Test.YtbhmpfjmhjdcaaaConStep
import Derived.Test.YtbhmpfjmhjdcaaaConSame
import Derived.Test.YtbhmpfjmhjdcaaaConAwake
namespace Go.Proofs.Ytbhmpfjmhjdcaaa
open Go.RowKit
set_option linter.unusedVariables false
set_option linter.unusedSimpArgs false

/-- The cells that a round looks at first: the document's console, and the step. -/
def PlayC (A bl o : Nat) (a b c d e : Value) (p : Sp) (W : World) : Prop := Box5 W A a b c d e ∧ Sp4 W bl o p
theorem PlayC.bar {A bl o P : Nat} {a b c d e : Value} {p : Sp} {w w' : World} (h : PlayC A bl o a b c d e p w) (hb : Bar P w w') (h1 : A ≠ P) (h2 : bl ≠ P) : PlayC A bl o a b c d e p w' := by
  obtain ⟨h0, c0, c1, c2, c3⟩ := h
  exact ⟨h0.bar hb h1, hb.cell h2 c0, hb.cell h2 c1, hb.cell h2 c2, hb.cell h2 c3⟩
theorem PlayC.fr {S : Nat → Prop} {A bl o : Nat} {a b c d e : Value} {p : Sp} {w w' : World} (h : PlayC A bl o a b c d e p w) (hf : Fr S w w') (h1 : ¬ S A) (h2 : ¬ S bl) : PlayC A bl o a b c d e p w' := by
  obtain ⟨h0, c0, c1, c2, c3⟩ := h
  exact ⟨h0.fr hf h1, hf.cell h2 c0, hf.cell h2 c1, hf.cell h2 c2, hf.cell h2 c3⟩
theorem PlayC.on {A bl o : Nat} {a b c d e : Value} {p : Sp} {w w' : World} (h : PlayC A bl o a b c d e p w) (hb : Below w.heap.size w w') : PlayC A bl o a b c d e p w' := h.fr (S := fun _ => False) (Fr.of _ hb) id id

/-- A row of bytes is no box of a document's console. -/
theorem BsV.box {S : Nat → Prop} {A : Nat} {w w' : World} {v : Value} {n : Nat} {f : Nat → Int} {a0 a1 a2 : Option Addr} {l0 l1 l2 c0 c1 c2 : Nat} {z : Int} {o' : Bool} (h : BsV S w v n f) (hx : Box5 w A (.slice a0 l0 c0) (.int .i64 z) (.slice a1 l1 c1) (.bool o') (.slice a2 l2 c2)) (hb : Bar A w w') : BsV S w' v n f := by
  rcases h with h | ⟨b, o, cap, hv, hc, hS, hl, h⟩
  · exact .inl h
  · refine .inr ⟨b, o, cap, hv, hc, hS, Nat.lt_of_lt_of_le hl hb.size, fun i hi => ?_⟩
    refine hb.cell (fun e => ?_) (h i hi)
    subst e
    have hk := h i hi
    unfold Box5 at hx
    simp only [World.cell?, hx] at hk
    generalize o + i = q at hk
    match q, hk with
    | 0, hk => simp at hk
    | 1, hk => simp at hk
    | 2, hk => simp at hk
    | 3, hk => simp at hk
    | 4, hk => simp at hk
    | q + 5, hk => simp at hk
theorem RefC.box {S : Nat → Prop} {A : Nat} {w w' : World} {v : Value} {a : Option Addr} {len cap : Nat} {s : CS} {a0 a1 a2 : Option Addr} {l0 l1 l2 c0 c1 c2 : Nat} {z : Int} {o' : Bool} (h : RefC S w v a len cap s) (hx : Box5 w A (.slice a0 l0 c0) (.int .i64 z) (.slice a1 l1 c1) (.bool o') (.slice a2 l2 c2)) (hb : Bar A w w') : RefC S w' v a len cap s := by
  obtain ⟨rx, out, hv, h1, h2⟩ := h
  exact ⟨rx, out, hv, h1.box hx hb, h2.box hx hb⟩

/-- What a round keeps. -/
def PlayG (w : World) (R A : Nat) (a : Option Addr) (len cap : Nat) (T Y : Nat → Int) (k : Nat) (s : CS) (S : Nat → Prop) (ra : Option Addr) (rc : Nat) (oa : Option Addr) (oc : Nat) (W : World) : Prop :=
  Box5 W A (.slice a len cap) (.int .i64 (s.c : Int)) (.slice ra s.n rc) (.bool s.ov) (.slice oa s.m oc) ∧ IsCon W R S len T Y s ∧ RefC S W (.agg #[.slice a len cap, .int .i64 (s.c : Int), .slice ra s.n rc, .bool s.ov, .slice oa s.m oc]) a len cap s ∧ s.m ≤ k ∧ ¬ S A ∧ (∀ k, S k → w.heap.size ≤ k) ∧ Below w.heap.size w W
theorem PlayG.on {w : World} {R A : Nat} {a : Option Addr} {len cap : Nat} {T Y : Nat → Int} {k : Nat} {s : CS} {S : Nat → Prop} {ra : Option Addr} {rc : Nat} {oa : Option Addr} {oc : Nat} {W W' : World} (h : PlayG w R A a len cap T Y k s S ra rc oa oc W) (hb : Below W.heap.size W W') : PlayG w R A a len cap T Y k s S ra rc oa oc W' := by
  obtain ⟨h1, h2, h3, h4, h5, h6, h7⟩ := h
  exact ⟨h1.on hb, h2.on hb, h3.on hb, h4, h5, h6, h7.trans (hb.mono h7.size)⟩
/-- Behind a step, ahead of the assignment. -/
def PlayE (w : World) (R A : Nat) (a : Option Addr) (len cap : Nat) (T Y : Nat → Int) (S' : Nat → Prop) (s' : CS) (ra' : Option Addr) (rc' : Nat) (oa' : Option Addr) (oc' : Nat) (b0 b1 b2 b3 b4 : Value) (k E : Nat) (W : World) : Prop :=
  Box5 W E (.slice a len cap) (.int .i64 (s'.c : Int)) (.slice ra' s'.n rc') (.bool s'.ov) (.slice oa' s'.m oc') ∧ Box5 W A b0 b1 b2 b3 b4 ∧ E ≠ A ∧ IsCon W R S' len T Y s' ∧ RefC S' W (.agg #[.slice a len cap, .int .i64 (s'.c : Int), .slice ra' s'.n rc', .bool s'.ov, .slice oa' s'.m oc']) a len cap s' ∧ s'.m ≤ k ∧ ¬ S' A ∧ (∀ k, S' k → w.heap.size ≤ k) ∧ Below w.heap.size w W
theorem PlayE.fin {w : World} {R A : Nat} {a : Option Addr} {len cap : Nat} {T Y : Nat → Int} {S' : Nat → Prop} {s' : CS} {ra' : Option Addr} {rc' : Nat} {oa' : Option Addr} {oc' : Nat} {a0 a1 a2 : Option Addr} {l0 l1 l2 c0 c1 c2 : Nat} {z : Int} {o' : Bool} {k E : Nat} {W : World}
    (h : PlayE w R A a len cap T Y S' s' ra' rc' oa' oc' (.slice a0 l0 c0) (.int .i64 z) (.slice a1 l1 c1) (.bool o') (.slice a2 l2 c2) k E W) (hA : w.heap.size ≤ A) : PlayG w R A a len cap T Y k s' S' ra' rc' oa' oc' (((((W.setCell ⟨A, 0, none⟩ (.slice a len cap)).setCell ⟨A, 1, none⟩ (.int .i64 (s'.c : Int))).setCell ⟨A, 2, none⟩ (.slice ra' s'.n rc')).setCell ⟨A, 3, none⟩ (.bool s'.ov)).setCell ⟨A, 4, none⟩ (.slice oa' s'.m oc')) := by
  obtain ⟨h1, h2, h3, h4, h5, h6, h7, h8, h9⟩ := h
  have hb := bar5 A W (.slice a len cap) (.int .i64 (s'.c : Int)) (.slice ra' s'.n rc') (.bool s'.ov) (.slice oa' s'.m oc')
  exact ⟨heap_setCell_at (heap_setCell_at (heap_setCell_at (heap_setCell_at (heap_setCell_at h2)))), h4.bar hb h7, h5.box h2 hb, h6, h7, h8, h9.trans (hb.below hA h9.size)⟩

namespace consolePlays
set_option maxRecDepth 100000 in
set_option maxHeartbeats 800000 in
theorem no (a : Option Addr) (len cap : Nat) (v : Option Addr) (sl sc : Nat) (w : World) (hm : len ≤ maxLen) (hm2 : sl ≤ maxLen) (h : 400 < len ∨ 200 < sl) :
    Calls Try.prog 3 #[.slice a len cap, .slice v sl sc] w fun e w' => e = .returned (.bool true) ∧ Below w.heap.size w w' := by
  unfold maxLen at hm hm2
  by_cases h1 : 400 < len
  · clear h
    go_enter Try.func3, Try.ntmps3
    go_wp2_with fail
    refine (awake12_any _).mono ?_
    rintro e w1 ⟨rfl, hb⟩
    go_wp2
    go_ret
    exact ⟨rfl, hb⟩
  · have h2 : 200 < sl := by
      rcases h with h | h
      · exact absurd h h1
      · exact h
    clear h
    go_enter Try.func3, Try.ntmps3
    go_wp2_with fail
    refine (awake12_any _).mono ?_
    rintro e w1 ⟨rfl, hb⟩
    go_wp2
    go_ret
    exact ⟨rfl, hb⟩

set_option maxRecDepth 100000 in
set_option maxHeartbeats 800000 in
theorem errs (a : Option Addr) (len cap : Nat) (T Y : Nat → Int) (v : Option Addr) (sl sc : Nat) (w : World) (ha : IsArr w a len cap T Y) (hl : len ≤ 400) (hs : sl ≤ 200) (h : 256 < len ∨ ¬ Rises len T) :
    Calls Try.prog 3 #[.slice a len cap, .slice v sl sc] w fun e w' => e = .returned (.bool true) ∧ Below w.heap.size w w' := by
  have hm := ha.1
  have HZ : ∃ z : Int, (z != 0) = true ∧ (∀ W, Below w.heap.size w W → Calls Try.prog 8 #[.slice a len cap] W fun e w' => e = .returned (.tuple #[.pointer none, .int .i64 z]) ∧ Q W w') ∧ (∀ W, Below w.heap.size w W → Calls Try.prog 9 #[.slice a len cap] W fun e w' => e = .returned (.int .i64 z) ∧ Q W w') := by
    by_cases h3 : 256 < len
    · refine ⟨3, by decide, fun W _ => (cnew_long a len cap W hm h3).mono ?_, fun W _ => (rright_long a len cap W hm h3).mono ?_⟩
      · rintro e w' ⟨rfl, rfl⟩
        exact ⟨rfl, Q.refl _⟩
      · rintro e w' ⟨rfl, rfl⟩
        exact ⟨rfl, Q.refl _⟩
    · have hr : ¬ Rises len T := by
        rcases h with h | h
        · exact absurd h h3
        · exact h
      exact ⟨1, by decide, fun W hb => cnew_form W (by omega) (ha.on hb) hr, fun W hb => rright_form W (by omega) (ha.on hb) hr⟩
  obtain ⟨z, hz, h1, h2⟩ := HZ
  have H1 := Lib.hid h1
  have H2 := Lib.hid h2
  unfold maxLen at hm
  clear h1 h2 h ha
  go_enter Try.func3, Try.ntmps3
  go_wp2_with fail
  refine (H1.out _ (Below.refl _ _)).mono ?_
  rintro e w1 ⟨rfl, hq⟩
  have HB1 := Lib.hid (hq.below w.heap.size)
  clear hq
  go_wp2_with fail
  refine (H2.out _ HB1.out).mono ?_
  rintro e w2 ⟨rfl, hq⟩
  have HB2 : Hid (Below w.heap.size w w2) := HB1.out.trans (hq.below _)
  clear hq
  go_wp2_with fail
  refine (awake12_any _).mono ?_
  rintro e w3 ⟨rfl, hb⟩
  have HB3 : Hid (Below w.heap.size w w3) := HB2.out.trans (hb.mono HB2.out.size)
  clear hb
  go_wp2
  go_ret
  exact ⟨rfl, HB3.out⟩

set_option maxRecDepth 100000 in
set_option maxHeartbeats 8000000 in
theorem yes (a : Option Addr) (len cap : Nat) (T Y : Nat → Int) (v : Option Addr) (sl sc : Nat) (F : Nat → Sp) (w : World) (ha : IsArr w a len cap T Y) (hl : len ≤ 256) (hr : Rises len T) (hs : sl ≤ 200) (hsp : IsSps w v sl F) :
    Calls Try.prog 3 #[.slice a len cap, .slice v sl sc] w fun e w' => e = .returned (.bool true) ∧ Below w.heap.size w w' := by
  have HN : Hid (∀ W, Below w.heap.size w W → Calls Try.prog 8 #[.slice a len cap] W fun e w' => ∃ R S, e = .returned (.tuple #[.pointer (some ⟨R, 0, none⟩), .int .i64 0]) ∧ IsCon w' R S len T Y CS.new ∧ (∀ k, S k → W.heap.size ≤ k) ∧ Below W.heap.size W w') := fun W hb => cnew_yes W hl (ha.on hb) hr
  have HRT : Hid (∀ W, Below w.heap.size w W → Calls Try.prog 9 #[.slice a len cap] W fun e w' => e = .returned (.int .i64 0) ∧ Q W w') := fun W hb => rright_yes W hl (ha.on hb) hr
  have HARR : Hid (∀ W, Below w.heap.size w W → IsArr W a len cap T Y) := fun W hb => ha.on hb
  have HBLK : Hid (0 < len → ∀ ad, a = some ad → ad.block < w.heap.size) := fun h0 ad he => by
    obtain ⟨b, off, hb, hc⟩ := ha.at h0
    rw [hb] at he
    cases he
    exact World.block_lt_of_cell? w _ (hc 0 h0).1
  have HSPS := Lib.hid hsp
  have HL256 := Lib.hid hl
  have HK200 := Lib.hid hs
  clear ha hr hsp
  go_enter Try.func3, Try.ntmps3
  go_wp2_with fail
  refine (HN.out _ (Below.refl _ _)).mono ?_
  rintro e w1 ⟨R, S0, rfl, hc, hS, hb⟩
  have HC1 := Lib.hid hc
  have HS0 := Lib.hid hS
  have HB1 := Lib.hid hb
  clear hc hS hb
  go_wp2_with fail
  refine (HRT.out _ HB1.out).mono ?_
  rintro e w2 ⟨rfl, hq⟩
  have HC2 := Lib.hid (HC1.out.q hq)
  have HB2 : Hid (Below w.heap.size w w2) := HB1.out.trans (hq.below _)
  clear hq
  obtain ⟨w3, hw3⟩ : ∃ w3, w3 = w2.alloc (.cells #[.slice a len cap, .int .i64 0, .slice none 0 0, .bool false, .slice none 0 0] 32) := ⟨_, rfl⟩
  have hb3 : Below w2.heap.size w2 w3 := by rw [hw3]; exact (Below.refl _ _).alloc (Nat.le_refl _) _
  obtain ⟨A, hA⟩ : ∃ A, A = w2.heap.size := ⟨_, rfl⟩
  have HG0 : Hid (PlayG w R A a len cap T Y 0 CS.new S0 none 0 none 0 w3) := ⟨by rw [hw3, hA]; exact heap_alloc_new _ _, HC2.out.on hb3, ⟨_, _, rfl, .inl ⟨rfl, rfl⟩, .inl ⟨rfl, rfl⟩⟩, Nat.le_refl _, fun e => by have := HC2.out.lt _ e; omega, HS0.out, HB2.out.trans (hb3.mono HB2.out.size)⟩
  have HAP : Hid (w.heap.size ≤ A) := by rw [hA]; exact HB2.out.size
  have HSM0 : Hid (Calls Try.prog 10 #[.pointer (some ⟨R, 0, none⟩), .agg #[.slice a len cap, .int .i64 0, .slice none 0 0, .bool false, .slice none 0 0]] w3 fun e w' => e = .returned (.bool true) ∧ Below w3.heap.size w3 w') := same12_any _ hl (Nat.zero_le _) (HARR.out _ HG0.out.2.2.2.2.2.2) HG0.out.2.1 HG0.out.2.2.1
  have HW3 := Lib.hid hw3
  have HA := Lib.hid hA
  clear hb3 hw3 hA HN HRT HC1 HC2 HB1 HB2
  go_wp2_with fail
  rw [← HW3.out, ← HA.out]
  refine HSM0.out.mono ?_
  rintro e w4 ⟨rfl, hb4⟩
  have HG4 := Lib.hid (HG0.out.on hb4)
  clear hb4 HSM0 HG0 HW3 HA HS0
  go_wp2_with fail
  go_loopw [9] (fun i wr => ∃ k : Nat, k ≤ sl ∧ i = .int .i64 k ∧ ∃ s S ra rc oa oc, PlayG w R A a len cap T Y k s S ra rc oa oc wr) (fun i _ => sl - (intOf i).toNat)
  case atStart => exact ⟨0, Nat.zero_le _, rfl, _, _, _, _, _, _, HG4.out⟩
  case round =>
    clear HG4
    obtain ⟨k, hk, rfl, s, S, ra, rc, oa, oc, hg⟩ := hrel
    by_cases hlt : k < sl
    · obtain ⟨_, hst⟩ := HSPS.out
      rcases hst with hst | ⟨bl, bo, hva, hst⟩
      · omega
      obtain ⟨hcells, x0, x1⟩ := hst k hlt
      obtain ⟨p, hpF⟩ : ∃ p, F k = p := ⟨_, rfl⟩
      rw [hpF] at hcells x0 x1
      clear hst hpF
      subst hva
      obtain ⟨hbox, hi, hrf, hmk, hnA, hSb, hbw⟩ := hg
      have hd : Below wr.heap.size wr wr.drew := (Below.refl _ _).drew
      have lbl : bl < w.heap.size := World.block_lt_of_cell? w _ hcells.1
      have HI1 := Lib.hid (hi.on hd)
      have HR1 := Lib.hid (hrf.on hd)
      have HA1 := Lib.hid (HARR.out _ hbw.drew)
      have HMK := Lib.hid hmk
      have HNS : Hid (¬ S A ∧ ¬ S bl) := ⟨hnA, fun e => by have := hSb _ e; omega⟩
      have HSB := Lib.hid hSb
      have HPC : Hid (PlayC A bl (bo + k * 4) (.slice a len cap) (.int .i64 (s.c : Int)) (.slice ra s.n rc) (.bool s.ov) (.slice oa s.m oc) p wr.drew) := by
        refine ⟨hbox.on hd, ?_⟩
        obtain ⟨e0, e1, e2, e3⟩ := hcells
        have hw := hbw.drew
        exact ⟨by rw [hw.cell (p := ⟨bl, _, none⟩) lbl]; exact e0, by rw [hw.cell (p := ⟨bl, _, none⟩) lbl]; exact e1, by rw [hw.cell (p := ⟨bl, _, none⟩) lbl]; exact e2, by rw [hw.cell (p := ⟨bl, _, none⟩) lbl]; exact e3⟩
      have HST : Hid (∀ W, IsCon W R S len T Y s → RefC S W (.agg #[.slice a len cap, .int .i64 (s.c : Int), .slice ra s.n rc, .bool s.ov, .slice oa s.m oc]) a len cap s → IsArr W a len cap T Y → Calls Try.prog 11 #[.pointer (some ⟨R, 0, none⟩), .agg #[.slice a len cap, .int .i64 (s.c : Int), .slice ra s.n rc, .bool s.ov, .slice oa s.m oc], .agg #[.int .i64 p.kind, .int .i64 p.reg, .int .u64 p.tick, .int .u32 p.x]] W fun e w' => ∃ v', e = .returned (.tuple #[v', .bool true]) ∧ StepOut W R S a len cap T Y s.m v' w') := fun W h1 h2 h3 =>
        step12_any p W HL256.out (by have := HK200.out; omega) x0 x1 h3 (fun h0 ad he e => by have := HBLK.out h0 ad he; have := HSB.out _ e; omega) h1 h2
      have HBW : Hid (Below w.heap.size w wr.drew) := hbw.drew
      have HLT1 : Hid (A < wr.drew.heap.size ∧ bl < wr.drew.heap.size) := ⟨hbox.lt, by have := hbw.size; show bl < wr.heap.size; omega⟩
      have g1 : (k : Int) < sl := by omega
      clear hbox hi hrf hmk hnA hSb hbw hd lbl hcells x0 x1
      go_wp2_with fail
      refine wp_region_held_drew (S := PlayC A bl (bo + k * 4) (.slice a len cap) (.int .i64 (s.c : Int)) (.slice ra s.n rc) (.bool s.ov) (.slice oa s.m oc) p) (by kernel_rfl) (HPC.out) (fun hHeld => ?_)
      generalize wr.drew = wd at *
      refine wpAnyH_take (i := 0) (oi := ?o0_13) (v := ?v0_13) ?ho0_13 (by kernel_rfl) (by kernel_rfl) (by kernel_rfl) ?q0_13 ?y0_13 (by assumption) ?rest0_13
      case ho0_13 => (simp only [List.getElem?_toArray, List.getElem?_cons_succ, List.getElem?_cons_zero]; rfl)
      case q0_13 => exact fun _ _ _ h => h
      case y0_13 => (refine Or.inl ⟨by rfl, ?_⟩; intro w hSw; (try dsimp only at hSw); go_simp; try with_reducible rfl)
      try simp only [Act.put, List.setIfInBounds_toArray, List.set_cons_zero, List.set_cons_succ]
      refine wpAnyH_take (i := 1) (oi := ?o1_13) (v := ?v1_13) ?ho1_13 (by kernel_rfl) (by kernel_rfl) (by kernel_rfl) ?q1_13 ?y1_13 (by assumption) ?rest1_13
      case ho1_13 => (simp only [List.getElem?_toArray, List.getElem?_cons_succ, List.getElem?_cons_zero]; rfl)
      case q1_13 => exact fun _ _ _ h => h
      case y1_13 => (refine Or.inl ⟨by rfl, ?_⟩; intro w hSw; (try dsimp only at hSw); obtain ⟨qa, qb, qc, qd, qe⟩ := hSw.1.cells; go_simp; try with_reducible rfl)
      try simp only [Act.put, List.setIfInBounds_toArray, List.set_cons_zero, List.set_cons_succ]
      refine wpAnyH_take (i := 2) (oi := ?o2_13) (v := ?v2_13) ?ho2_13 (by kernel_rfl) (by kernel_rfl) (by kernel_rfl) ?q2_13 ?y2_13 (by assumption) ?rest2_13
      case ho2_13 => (simp only [List.getElem?_toArray, List.getElem?_cons_succ, List.getElem?_cons_zero]; rfl)
      case q2_13 => exact fun _ _ _ h => h
      case y2_13 => (refine Or.inl ⟨by rfl, ?_⟩; intro w hSw; (try dsimp only at hSw); go_simp; try with_reducible rfl)
      try simp only [Act.put, List.setIfInBounds_toArray, List.set_cons_zero, List.set_cons_succ]
      refine wpAnyH_take (i := 3) (oi := ?o3_13) (v := ?v3_13) ?ho3_13 (by kernel_rfl) (by kernel_rfl) (by kernel_rfl) ?q3_13 ?y3_13 (by assumption) ?rest3_13
      case ho3_13 => (simp only [List.getElem?_toArray, List.getElem?_cons_succ, List.getElem?_cons_zero]; rfl)
      case q3_13 => exact fun _ _ _ h => h
      case y3_13 => (refine Or.inl ⟨by rfl, ?_⟩; intro w hSw; (try dsimp only at hSw); go_simp; try with_reducible rfl)
      try simp only [Act.put, List.setIfInBounds_toArray, List.set_cons_zero, List.set_cons_succ]
      refine wpAnyH_take (i := 4) (oi := ?o4_13) (v := ?v4_13) ?ho4_13 (by kernel_rfl) (by kernel_rfl) (by kernel_rfl) ?q4_13 ?y4_13 (by assumption) ?rest4_13
      case ho4_13 => (simp only [List.getElem?_toArray, List.getElem?_cons_succ, List.getElem?_cons_zero]; rfl)
      case q4_13 => exact fun _ _ _ h => h
      case y4_13 => (refine Or.inl ⟨by rfl, ?_⟩; intro w hSw; (try dsimp only at hSw); go_simp; try with_reducible rfl)
      try simp only [Act.put, List.setIfInBounds_toArray, List.set_cons_zero, List.set_cons_succ]
      refine wpAnyH_take (i := 5) (oi := ?o5_13) (v := ?v5_13) ?ho5_13 (by kernel_rfl) (by kernel_rfl) (by kernel_rfl) ?q5_13 ?y5_13 (by assumption) ?rest5_13
      case ho5_13 => (simp only [List.getElem?_toArray, List.getElem?_cons_succ, List.getElem?_cons_zero]; rfl)
      case q5_13 => exact fun _ _ _ h => h
      case y5_13 => (refine Or.inl ⟨by rfl, ?_⟩; intro w hSw; (try dsimp only at hSw); obtain ⟨qf, qg, qh, qi⟩ := hSw.2; go_simp; try with_reducible rfl)
      try simp only [Act.put, List.setIfInBounds_toArray, List.set_cons_zero, List.set_cons_succ]
      refine wpAnyH_ready (rs := [6, 10]) (by kernel_rfl) (by simp) (AllReadyH.cons rfl (fun Kx hKx => ?b6_13) (AllReadyH.cons rfl (fun Kx hKx => ?b10_13) AllReadyH.nil))
      case b6_13 =>
        go_simp
        refine (HST.out _ ?_ ?_ ?_).mono ?_
        first | exact HI1.out | exact HI2.out
        first | exact HR1.out | exact HR2.out
        first | exact HA1.out | exact HA2.out
        rintro e W2 ⟨v', rfl, s', S', hc', hr', hm', hf', he'⟩
        have hb6 := hHeld.fr hf' HNS.out.1 HNS.out.2
        obtain ⟨rx', out', rfl, hx', ho'⟩ := id hr'
        obtain ⟨ra', rc', rfl⟩ := hx'.form
        obtain ⟨oa', oc', rfl⟩ := ho'.form
        have HI' := Lib.hid hc'
        have HR' := Lib.hid hr'
        have HM' := Lib.hid hm'
        have HF' := Lib.hid hf'
        have HE' := Lib.hid he'
        clear hc' hr' hm' hf' he' hx' ho'
        try go_wp2_with fail
        refine hKx.out _ _ hb6 (fun hHeld => ?_)
        clear hKx Kx
        try simp only [Act.put, List.setIfInBounds_toArray, List.set_cons_zero, List.set_cons_succ]
        refine wpAnyH_take (i := 7) (oi := ?o7_13_6) (v := ?v7_13_6) ?ho7_13_6 (by kernel_rfl) (by kernel_rfl) (by kernel_rfl) ?q7_13_6 ?y7_13_6 (by assumption) ?rest7_13_6
        case ho7_13_6 => (simp only [List.getElem?_toArray, List.getElem?_cons_succ, List.getElem?_cons_zero]; rfl)
        case q7_13_6 => exact fun _ _ _ h => h
        case y7_13_6 => (refine Or.inl ⟨by rfl, ?_⟩; intro w hSw; (try dsimp only at hSw); go_simp; try with_reducible rfl)
        try simp only [Act.put, List.setIfInBounds_toArray, List.set_cons_zero, List.set_cons_succ]
        refine wpAnyH_take (i := 8) (oi := ?o8_13_6) (v := ?v8_13_6) ?ho8_13_6 (by kernel_rfl) (by kernel_rfl) (by kernel_rfl) ?q8_13_6 ?y8_13_6 (by assumption) ?rest8_13_6
        case ho8_13_6 => (simp only [List.getElem?_toArray, List.getElem?_cons_succ, List.getElem?_cons_zero]; rfl)
        case q8_13_6 => exact fun _ _ _ h => h
        case y8_13_6 => (refine Or.inl ⟨by rfl, ?_⟩; intro w hSw; (try dsimp only at hSw); go_simp; try with_reducible rfl)
        try simp only [Act.put, List.setIfInBounds_toArray, List.set_cons_zero, List.set_cons_succ]
        refine wpAnyH_take (i := 9) (oi := ?o9_13_6) (v := ?v9_13_6) ?ho9_13_6 (by kernel_rfl) (by kernel_rfl) (by kernel_rfl) ?q9_13_6 ?y9_13_6 (by assumption) ?rest9_13_6
        case ho9_13_6 => (simp only [List.getElem?_toArray, List.getElem?_cons_succ, List.getElem?_cons_zero]; rfl)
        case q9_13_6 => exact fun _ _ _ h => h
        case y9_13_6 => (refine Or.inl ⟨by rfl, ?_⟩; intro w hSw; (try dsimp only at hSw); go_simp; try with_reducible rfl)
        try simp only [Act.put, List.setIfInBounds_toArray, List.set_cons_zero, List.set_cons_succ]
        refine wpAnyH_ready (rs := [10]) (by kernel_rfl) (by simp) (AllReadyH.cons rfl (fun Kx hKx => ?_) AllReadyH.nil)
        go_simp
        first
        | (refine hKx.out _ _ (hHeld.on ((Below.refl _ _).alloc (Nat.le_refl _) _)) (fun hHeld => ?_))
        first
        | (have HBE : Hid (Box5 (W2.alloc (.cells #[.slice none 0 0, .int .i64 0, .slice none 0 0, .bool false, .slice none 0 0] 32)) W2.heap.size (.slice none 0 0) (.int .i64 0) (.slice none 0 0) (.bool false) (.slice none 0 0) ∧ Below W2.heap.size W2 (W2.alloc (.cells #[.slice none 0 0, .int .i64 0, .slice none 0 0, .bool false, .slice none 0 0] 32))) := ⟨heap_alloc_new _ _, (Below.refl _ _).alloc (Nat.le_refl _) _⟩)
        | (have HBE : Hid (Box5 (wd.alloc (.cells #[.slice none 0 0, .int .i64 0, .slice none 0 0, .bool false, .slice none 0 0] 32)) wd.heap.size (.slice none 0 0) (.int .i64 0) (.slice none 0 0) (.bool false) (.slice none 0 0) ∧ Below wd.heap.size wd (wd.alloc (.cells #[.slice none 0 0, .int .i64 0, .slice none 0 0, .bool false, .slice none 0 0] 32))) := ⟨heap_alloc_new _ _, (Below.refl _ _).alloc (Nat.le_refl _) _⟩
           have HI2 := Lib.hid (HI1.out.on HBE.out.2)
           have HR2 := Lib.hid (HR1.out.on HBE.out.2)
           have HA2 := Lib.hid (HA1.out.on HBE.out.2))
        clear hKx Kx
        try simp only [Act.put, List.setIfInBounds_toArray, List.set_cons_zero, List.set_cons_succ]
        refine wpAnyH_ready (rs := [11]) (by kernel_rfl) (by simp) (AllReadyH.cons rfl (fun Kx hKx => ?_) AllReadyH.nil)
        first
        | (have HX : Hid (Box5 (W2.alloc (.cells #[.slice none 0 0, .int .i64 0, .slice none 0 0, .bool false, .slice none 0 0] 32)) W2.heap.size (.slice none 0 0) (.int .i64 0) (.slice none 0 0) (.bool false) (.slice none 0 0)) := HBE.out.1
           obtain ⟨t0, t1, t2, t3, t4⟩ := HX.out.cells
           obtain ⟨u0, u1, u2, u3, u4⟩ := HX.out.free
           have hb11 : PlayC A bl (bo + k * 4) (.slice a len cap) (.int .i64 (s.c : Int)) (.slice ra s.n rc) (.bool s.ov) (.slice oa s.m oc) p (W2.alloc (.cells #[.slice a len cap, .int .i64 (s'.c : Int), .slice ra' s'.n rc', .bool s'.ov, .slice oa' s'.m oc'] 32)) := hb6.on ((Below.refl _ _).alloc (Nat.le_refl _) _)
           go_simp
           refine hKx.out _ _ hb11 (fun hHeld => ?_))
        | (have HX : Hid (Box5 W2 wd.heap.size (.slice none 0 0) (.int .i64 0) (.slice none 0 0) (.bool false) (.slice none 0 0)) := HBE.out.1.fr HF'.out (fun e => by have := HI1.out.lt _ e; omega)
           obtain ⟨t0, t1, t2, t3, t4⟩ := HX.out.cells
           obtain ⟨u0, u1, u2, u3, u4⟩ := HX.out.free
           have hb11 := hHeld.bar (bar5 wd.heap.size W2 (.slice a len cap) (.int .i64 (s'.c : Int)) (.slice ra' s'.n rc') (.bool s'.ov) (.slice oa' s'.m oc')) (by have := HLT1.out; omega) (by have := HLT1.out; omega)
           go_simp
           refine hKx.out _ _ hb11 (fun hHeld => ?_))
        clear hKx Kx hb11
        refine wpAnyH_take (i := 12) (oi := ?o12_13_6) (v := ?v12_13_6) ?ho12_13_6 (by kernel_rfl) (by kernel_rfl) (by kernel_rfl) ?q12_13_6 ?y12_13_6 (by assumption) ?rest12_13_6
        case ho12_13_6 => (simp only [List.getElem?_toArray, List.getElem?_cons_succ, List.getElem?_cons_zero]; rfl)
        case q12_13_6 => exact fun _ _ _ h => h
        case y12_13_6 => (refine Or.inl ⟨by rfl, ?_⟩; intro w hSw; (try dsimp only at hSw); go_simp; try with_reducible rfl)
        try simp only [Act.put, List.setIfInBounds_toArray, List.set_cons_zero, List.set_cons_succ]
        refine wpAnyH_done (by kernel_rfl) ?_ _
        have HF := Lib.hid hHeld
        clear hHeld
        first
        | (have hE : PlayE w R A a len cap T Y S' s' ra' rc' oa' oc' (.slice a len cap) (.int .i64 (s.c : Int)) (.slice ra s.n rc) (.bool s.ov) (.slice oa s.m oc) (k + 1) W2.heap.size (W2.alloc (.cells #[.slice a len cap, .int .i64 (s'.c : Int), .slice ra' s'.n rc', .bool s'.ov, .slice oa' s'.m oc'] 32)) := by
             have hb := (Below.refl W2.heap.size W2).alloc (Nat.le_refl _) (.cells #[.slice a len cap, .int .i64 (s'.c : Int), .slice ra' s'.n rc', .bool s'.ov, .slice oa' s'.m oc'] 32)
             exact ⟨heap_alloc_new _ _, HF.out.1, by have := HF'.out.size; have := HLT1.out; omega, HI'.out.on hb, HR'.out.on hb, by have := HM'.out; have := HMK.out; omega, fun e => by rcases HE'.out _ e with h | h; exact HNS.out.1 h; (have := HLT1.out; omega), fun q hq => by rcases HE'.out _ hq with h | h; exact HSB.out _ h; (have := HBW.out.size; omega), (HBW.out.trans (HF'.out.below HSB.out HBW.out.size)).alloc (by have := HBW.out.size; have := HF'.out.size; omega) _⟩
           have HE := Lib.hid hE
           clear hE HX HBE HF t0 t1 t2 t3 t4 u0 u1 u2 u3 u4 hb6
           generalize W2.alloc (.cells #[.slice a len cap, .int .i64 (s'.c : Int), .slice ra' s'.n rc', .bool s'.ov, .slice oa' s'.m oc'] 32) = W5 at *
           generalize W2.heap.size = E at *)
        | (have hE : PlayE w R A a len cap T Y S' s' ra' rc' oa' oc' (.slice a len cap) (.int .i64 (s.c : Int)) (.slice ra s.n rc) (.bool s.ov) (.slice oa s.m oc) (k + 1) wd.heap.size (((((W2.setCell ⟨wd.heap.size, 0, none⟩ (.slice a len cap)).setCell ⟨wd.heap.size, 1, none⟩ (.int .i64 (s'.c : Int))).setCell ⟨wd.heap.size, 2, none⟩ (.slice ra' s'.n rc')).setCell ⟨wd.heap.size, 3, none⟩ (.bool s'.ov)).setCell ⟨wd.heap.size, 4, none⟩ (.slice oa' s'.m oc')) := by
             have hb := bar5 wd.heap.size W2 (.slice a len cap) (.int .i64 (s'.c : Int)) (.slice ra' s'.n rc') (.bool s'.ov) (.slice oa' s'.m oc')
             have hsz := HBE.out.2.size
             have hwd : (wd.alloc (.cells #[.slice none 0 0, .int .i64 0, .slice none 0 0, .bool false, .slice none 0 0] 32)).heap.size = wd.heap.size + 1 := by simp
             have hn : ¬ S' wd.heap.size := fun e => by rcases HE'.out _ e with h | h; (have := HI1.out.lt _ h; omega); omega
             exact ⟨heap_setCell_at (heap_setCell_at (heap_setCell_at (heap_setCell_at (heap_setCell_at HX.out)))), HF.out.1, by have := HLT1.out; omega, HI'.out.bar hb hn, HR'.out.box HX.out hb, by have := HM'.out; have := HMK.out; omega, fun e => by rcases HE'.out _ e with h | h; exact HNS.out.1 h; (have := HLT1.out; omega), fun q hq => by rcases HE'.out _ hq with h | h; exact HSB.out _ h; (have := HBW.out.size; omega), ((HBW.out.trans (HBE.out.2.mono HBW.out.size)).trans (HF'.out.below HSB.out (by have := HBW.out.size; omega))).trans (hb.below (by have := HBW.out.size; omega) (by have := HBW.out.size; have := HF'.out.size; omega))⟩
           have HE := Lib.hid hE
           clear hE HX HBE HF t0 t1 t2 t3 t4 u0 u1 u2 u3 u4 hb6 HI2 HR2 HA2
           generalize (((((W2.setCell ⟨wd.heap.size, 0, none⟩ (.slice a len cap)).setCell ⟨wd.heap.size, 1, none⟩ (.int .i64 (s'.c : Int))).setCell ⟨wd.heap.size, 2, none⟩ (.slice ra' s'.n rc')).setCell ⟨wd.heap.size, 3, none⟩ (.bool s'.ov)).setCell ⟨wd.heap.size, 4, none⟩ (.slice oa' s'.m oc')) = W5 at *
           generalize wd.heap.size = E at *)
        obtain ⟨t0, t1, t2, t3, t4⟩ := HE.out.1.cells
        obtain ⟨r0, r1, r2, r3, r4⟩ := HE.out.2.1.cells
        obtain ⟨y0, y1, y2, y3, y4⟩ := HE.out.2.1.free
        have n1 : E ≠ A := HE.out.2.2.1
        have n2 : A ≠ E := n1.symm
        have HG : Hid (PlayG w R A a len cap T Y (k + 1) s' S' ra' rc' oa' oc' (((((W5.setCell ⟨A, 0, none⟩ (.slice a len cap)).setCell ⟨A, 1, none⟩ (.int .i64 (s'.c : Int))).setCell ⟨A, 2, none⟩ (.slice ra' s'.n rc')).setCell ⟨A, 3, none⟩ (.bool s'.ov)).setCell ⟨A, 4, none⟩ (.slice oa' s'.m oc'))) := HE.out.fin HAP.out
        have HSM : Hid (Calls Try.prog 10 #[.pointer (some ⟨R, 0, none⟩), .agg #[.slice a len cap, .int .i64 (s'.c : Int), .slice ra' s'.n rc', .bool s'.ov, .slice oa' s'.m oc']] (((((W5.setCell ⟨A, 0, none⟩ (.slice a len cap)).setCell ⟨A, 1, none⟩ (.int .i64 (s'.c : Int))).setCell ⟨A, 2, none⟩ (.slice ra' s'.n rc')).setCell ⟨A, 3, none⟩ (.bool s'.ov)).setCell ⟨A, 4, none⟩ (.slice oa' s'.m oc')) fun e w' => e = .returned (.bool true) ∧ Below (((((W5.setCell ⟨A, 0, none⟩ (.slice a len cap)).setCell ⟨A, 1, none⟩ (.int .i64 (s'.c : Int))).setCell ⟨A, 2, none⟩ (.slice ra' s'.n rc')).setCell ⟨A, 3, none⟩ (.bool s'.ov)).setCell ⟨A, 4, none⟩ (.slice oa' s'.m oc')).heap.size (((((W5.setCell ⟨A, 0, none⟩ (.slice a len cap)).setCell ⟨A, 1, none⟩ (.int .i64 (s'.c : Int))).setCell ⟨A, 2, none⟩ (.slice ra' s'.n rc')).setCell ⟨A, 3, none⟩ (.bool s'.ov)).setCell ⟨A, 4, none⟩ (.slice oa' s'.m oc')) w') := same12_any _ HL256.out (by have := HG.out.2.2.2.1; have := HK200.out; omega) (HARR.out _ HG.out.2.2.2.2.2.2) HG.out.2.1 HG.out.2.2.1
        clear HE HI' HR' HM' HF' HE' HI1 HR1 HA1 HPC HLT1 HST HBW HMK HNS HSB
        go_wp2_with fail
        refine HSM.out.mono ?_
        rintro e W7 ⟨rfl, hb7⟩
        have HG7 := Lib.hid (HG.out.on hb7)
        clear hb7 HSM HG r0 r1 r2 r3 r4 t0 t1 t2 t3 t4 y0 y1 y2 y3 y4
        go_wp2
        go_roundw
        case rel => exact ⟨k + 1, by omega, by go_num, _, _, _, _, _, _, HG7.out⟩
        case measure => simp [intOf]; omega
      case b10_13 =>
        go_simp
        first
        | (refine hKx.out _ _ (hHeld.on ((Below.refl _ _).alloc (Nat.le_refl _) _)) (fun hHeld => ?_))
        first
        | (have HBE : Hid (Box5 (W2.alloc (.cells #[.slice none 0 0, .int .i64 0, .slice none 0 0, .bool false, .slice none 0 0] 32)) W2.heap.size (.slice none 0 0) (.int .i64 0) (.slice none 0 0) (.bool false) (.slice none 0 0) ∧ Below W2.heap.size W2 (W2.alloc (.cells #[.slice none 0 0, .int .i64 0, .slice none 0 0, .bool false, .slice none 0 0] 32))) := ⟨heap_alloc_new _ _, (Below.refl _ _).alloc (Nat.le_refl _) _⟩)
        | (have HBE : Hid (Box5 (wd.alloc (.cells #[.slice none 0 0, .int .i64 0, .slice none 0 0, .bool false, .slice none 0 0] 32)) wd.heap.size (.slice none 0 0) (.int .i64 0) (.slice none 0 0) (.bool false) (.slice none 0 0) ∧ Below wd.heap.size wd (wd.alloc (.cells #[.slice none 0 0, .int .i64 0, .slice none 0 0, .bool false, .slice none 0 0] 32))) := ⟨heap_alloc_new _ _, (Below.refl _ _).alloc (Nat.le_refl _) _⟩
           have HI2 := Lib.hid (HI1.out.on HBE.out.2)
           have HR2 := Lib.hid (HR1.out.on HBE.out.2)
           have HA2 := Lib.hid (HA1.out.on HBE.out.2))
        clear hKx Kx
        try simp only [Act.put, List.setIfInBounds_toArray, List.set_cons_zero, List.set_cons_succ]
        refine wpAnyH_ready (rs := [6]) (by kernel_rfl) (by simp) (AllReadyH.cons rfl (fun Kx hKx => ?_) AllReadyH.nil)
        go_simp
        refine (HST.out _ ?_ ?_ ?_).mono ?_
        first | exact HI1.out | exact HI2.out
        first | exact HR1.out | exact HR2.out
        first | exact HA1.out | exact HA2.out
        rintro e W2 ⟨v', rfl, s', S', hc', hr', hm', hf', he'⟩
        have hb6 := hHeld.fr hf' HNS.out.1 HNS.out.2
        obtain ⟨rx', out', rfl, hx', ho'⟩ := id hr'
        obtain ⟨ra', rc', rfl⟩ := hx'.form
        obtain ⟨oa', oc', rfl⟩ := ho'.form
        have HI' := Lib.hid hc'
        have HR' := Lib.hid hr'
        have HM' := Lib.hid hm'
        have HF' := Lib.hid hf'
        have HE' := Lib.hid he'
        clear hc' hr' hm' hf' he' hx' ho'
        try go_wp2_with fail
        refine hKx.out _ _ hb6 (fun hHeld => ?_)
        clear hKx Kx
        try simp only [Act.put, List.setIfInBounds_toArray, List.set_cons_zero, List.set_cons_succ]
        refine wpAnyH_take (i := 7) (oi := ?o7_13_10) (v := ?v7_13_10) ?ho7_13_10 (by kernel_rfl) (by kernel_rfl) (by kernel_rfl) ?q7_13_10 ?y7_13_10 (by assumption) ?rest7_13_10
        case ho7_13_10 => (simp only [List.getElem?_toArray, List.getElem?_cons_succ, List.getElem?_cons_zero]; rfl)
        case q7_13_10 => exact fun _ _ _ h => h
        case y7_13_10 => (refine Or.inl ⟨by rfl, ?_⟩; intro w hSw; (try dsimp only at hSw); go_simp; try with_reducible rfl)
        try simp only [Act.put, List.setIfInBounds_toArray, List.set_cons_zero, List.set_cons_succ]
        refine wpAnyH_take (i := 8) (oi := ?o8_13_10) (v := ?v8_13_10) ?ho8_13_10 (by kernel_rfl) (by kernel_rfl) (by kernel_rfl) ?q8_13_10 ?y8_13_10 (by assumption) ?rest8_13_10
        case ho8_13_10 => (simp only [List.getElem?_toArray, List.getElem?_cons_succ, List.getElem?_cons_zero]; rfl)
        case q8_13_10 => exact fun _ _ _ h => h
        case y8_13_10 => (refine Or.inl ⟨by rfl, ?_⟩; intro w hSw; (try dsimp only at hSw); go_simp; try with_reducible rfl)
        try simp only [Act.put, List.setIfInBounds_toArray, List.set_cons_zero, List.set_cons_succ]
        refine wpAnyH_take (i := 9) (oi := ?o9_13_10) (v := ?v9_13_10) ?ho9_13_10 (by kernel_rfl) (by kernel_rfl) (by kernel_rfl) ?q9_13_10 ?y9_13_10 (by assumption) ?rest9_13_10
        case ho9_13_10 => (simp only [List.getElem?_toArray, List.getElem?_cons_succ, List.getElem?_cons_zero]; rfl)
        case q9_13_10 => exact fun _ _ _ h => h
        case y9_13_10 => (refine Or.inl ⟨by rfl, ?_⟩; intro w hSw; (try dsimp only at hSw); go_simp; try with_reducible rfl)
        try simp only [Act.put, List.setIfInBounds_toArray, List.set_cons_zero, List.set_cons_succ]
        refine wpAnyH_ready (rs := [11]) (by kernel_rfl) (by simp) (AllReadyH.cons rfl (fun Kx hKx => ?_) AllReadyH.nil)
        first
        | (have HX : Hid (Box5 (W2.alloc (.cells #[.slice none 0 0, .int .i64 0, .slice none 0 0, .bool false, .slice none 0 0] 32)) W2.heap.size (.slice none 0 0) (.int .i64 0) (.slice none 0 0) (.bool false) (.slice none 0 0)) := HBE.out.1
           obtain ⟨t0, t1, t2, t3, t4⟩ := HX.out.cells
           obtain ⟨u0, u1, u2, u3, u4⟩ := HX.out.free
           have hb11 : PlayC A bl (bo + k * 4) (.slice a len cap) (.int .i64 (s.c : Int)) (.slice ra s.n rc) (.bool s.ov) (.slice oa s.m oc) p (W2.alloc (.cells #[.slice a len cap, .int .i64 (s'.c : Int), .slice ra' s'.n rc', .bool s'.ov, .slice oa' s'.m oc'] 32)) := hb6.on ((Below.refl _ _).alloc (Nat.le_refl _) _)
           go_simp
           refine hKx.out _ _ hb11 (fun hHeld => ?_))
        | (have HX : Hid (Box5 W2 wd.heap.size (.slice none 0 0) (.int .i64 0) (.slice none 0 0) (.bool false) (.slice none 0 0)) := HBE.out.1.fr HF'.out (fun e => by have := HI1.out.lt _ e; omega)
           obtain ⟨t0, t1, t2, t3, t4⟩ := HX.out.cells
           obtain ⟨u0, u1, u2, u3, u4⟩ := HX.out.free
           have hb11 := hHeld.bar (bar5 wd.heap.size W2 (.slice a len cap) (.int .i64 (s'.c : Int)) (.slice ra' s'.n rc') (.bool s'.ov) (.slice oa' s'.m oc')) (by have := HLT1.out; omega) (by have := HLT1.out; omega)
           go_simp
           refine hKx.out _ _ hb11 (fun hHeld => ?_))
        clear hKx Kx hb11
        refine wpAnyH_take (i := 12) (oi := ?o12_13_10) (v := ?v12_13_10) ?ho12_13_10 (by kernel_rfl) (by kernel_rfl) (by kernel_rfl) ?q12_13_10 ?y12_13_10 (by assumption) ?rest12_13_10
        case ho12_13_10 => (simp only [List.getElem?_toArray, List.getElem?_cons_succ, List.getElem?_cons_zero]; rfl)
        case q12_13_10 => exact fun _ _ _ h => h
        case y12_13_10 => (refine Or.inl ⟨by rfl, ?_⟩; intro w hSw; (try dsimp only at hSw); go_simp; try with_reducible rfl)
        try simp only [Act.put, List.setIfInBounds_toArray, List.set_cons_zero, List.set_cons_succ]
        refine wpAnyH_done (by kernel_rfl) ?_ _
        have HF := Lib.hid hHeld
        clear hHeld
        first
        | (have hE : PlayE w R A a len cap T Y S' s' ra' rc' oa' oc' (.slice a len cap) (.int .i64 (s.c : Int)) (.slice ra s.n rc) (.bool s.ov) (.slice oa s.m oc) (k + 1) W2.heap.size (W2.alloc (.cells #[.slice a len cap, .int .i64 (s'.c : Int), .slice ra' s'.n rc', .bool s'.ov, .slice oa' s'.m oc'] 32)) := by
             have hb := (Below.refl W2.heap.size W2).alloc (Nat.le_refl _) (.cells #[.slice a len cap, .int .i64 (s'.c : Int), .slice ra' s'.n rc', .bool s'.ov, .slice oa' s'.m oc'] 32)
             exact ⟨heap_alloc_new _ _, HF.out.1, by have := HF'.out.size; have := HLT1.out; omega, HI'.out.on hb, HR'.out.on hb, by have := HM'.out; have := HMK.out; omega, fun e => by rcases HE'.out _ e with h | h; exact HNS.out.1 h; (have := HLT1.out; omega), fun q hq => by rcases HE'.out _ hq with h | h; exact HSB.out _ h; (have := HBW.out.size; omega), (HBW.out.trans (HF'.out.below HSB.out HBW.out.size)).alloc (by have := HBW.out.size; have := HF'.out.size; omega) _⟩
           have HE := Lib.hid hE
           clear hE HX HBE HF t0 t1 t2 t3 t4 u0 u1 u2 u3 u4 hb6
           generalize W2.alloc (.cells #[.slice a len cap, .int .i64 (s'.c : Int), .slice ra' s'.n rc', .bool s'.ov, .slice oa' s'.m oc'] 32) = W5 at *
           generalize W2.heap.size = E at *)
        | (have hE : PlayE w R A a len cap T Y S' s' ra' rc' oa' oc' (.slice a len cap) (.int .i64 (s.c : Int)) (.slice ra s.n rc) (.bool s.ov) (.slice oa s.m oc) (k + 1) wd.heap.size (((((W2.setCell ⟨wd.heap.size, 0, none⟩ (.slice a len cap)).setCell ⟨wd.heap.size, 1, none⟩ (.int .i64 (s'.c : Int))).setCell ⟨wd.heap.size, 2, none⟩ (.slice ra' s'.n rc')).setCell ⟨wd.heap.size, 3, none⟩ (.bool s'.ov)).setCell ⟨wd.heap.size, 4, none⟩ (.slice oa' s'.m oc')) := by
             have hb := bar5 wd.heap.size W2 (.slice a len cap) (.int .i64 (s'.c : Int)) (.slice ra' s'.n rc') (.bool s'.ov) (.slice oa' s'.m oc')
             have hsz := HBE.out.2.size
             have hwd : (wd.alloc (.cells #[.slice none 0 0, .int .i64 0, .slice none 0 0, .bool false, .slice none 0 0] 32)).heap.size = wd.heap.size + 1 := by simp
             have hn : ¬ S' wd.heap.size := fun e => by rcases HE'.out _ e with h | h; (have := HI1.out.lt _ h; omega); omega
             exact ⟨heap_setCell_at (heap_setCell_at (heap_setCell_at (heap_setCell_at (heap_setCell_at HX.out)))), HF.out.1, by have := HLT1.out; omega, HI'.out.bar hb hn, HR'.out.box HX.out hb, by have := HM'.out; have := HMK.out; omega, fun e => by rcases HE'.out _ e with h | h; exact HNS.out.1 h; (have := HLT1.out; omega), fun q hq => by rcases HE'.out _ hq with h | h; exact HSB.out _ h; (have := HBW.out.size; omega), ((HBW.out.trans (HBE.out.2.mono HBW.out.size)).trans (HF'.out.below HSB.out (by have := HBW.out.size; omega))).trans (hb.below (by have := HBW.out.size; omega) (by have := HBW.out.size; have := HF'.out.size; omega))⟩
           have HE := Lib.hid hE
           clear hE HX HBE HF t0 t1 t2 t3 t4 u0 u1 u2 u3 u4 hb6 HI2 HR2 HA2
           generalize (((((W2.setCell ⟨wd.heap.size, 0, none⟩ (.slice a len cap)).setCell ⟨wd.heap.size, 1, none⟩ (.int .i64 (s'.c : Int))).setCell ⟨wd.heap.size, 2, none⟩ (.slice ra' s'.n rc')).setCell ⟨wd.heap.size, 3, none⟩ (.bool s'.ov)).setCell ⟨wd.heap.size, 4, none⟩ (.slice oa' s'.m oc')) = W5 at *
           generalize wd.heap.size = E at *)
        obtain ⟨t0, t1, t2, t3, t4⟩ := HE.out.1.cells
        obtain ⟨r0, r1, r2, r3, r4⟩ := HE.out.2.1.cells
        obtain ⟨y0, y1, y2, y3, y4⟩ := HE.out.2.1.free
        have n1 : E ≠ A := HE.out.2.2.1
        have n2 : A ≠ E := n1.symm
        have HG : Hid (PlayG w R A a len cap T Y (k + 1) s' S' ra' rc' oa' oc' (((((W5.setCell ⟨A, 0, none⟩ (.slice a len cap)).setCell ⟨A, 1, none⟩ (.int .i64 (s'.c : Int))).setCell ⟨A, 2, none⟩ (.slice ra' s'.n rc')).setCell ⟨A, 3, none⟩ (.bool s'.ov)).setCell ⟨A, 4, none⟩ (.slice oa' s'.m oc'))) := HE.out.fin HAP.out
        have HSM : Hid (Calls Try.prog 10 #[.pointer (some ⟨R, 0, none⟩), .agg #[.slice a len cap, .int .i64 (s'.c : Int), .slice ra' s'.n rc', .bool s'.ov, .slice oa' s'.m oc']] (((((W5.setCell ⟨A, 0, none⟩ (.slice a len cap)).setCell ⟨A, 1, none⟩ (.int .i64 (s'.c : Int))).setCell ⟨A, 2, none⟩ (.slice ra' s'.n rc')).setCell ⟨A, 3, none⟩ (.bool s'.ov)).setCell ⟨A, 4, none⟩ (.slice oa' s'.m oc')) fun e w' => e = .returned (.bool true) ∧ Below (((((W5.setCell ⟨A, 0, none⟩ (.slice a len cap)).setCell ⟨A, 1, none⟩ (.int .i64 (s'.c : Int))).setCell ⟨A, 2, none⟩ (.slice ra' s'.n rc')).setCell ⟨A, 3, none⟩ (.bool s'.ov)).setCell ⟨A, 4, none⟩ (.slice oa' s'.m oc')).heap.size (((((W5.setCell ⟨A, 0, none⟩ (.slice a len cap)).setCell ⟨A, 1, none⟩ (.int .i64 (s'.c : Int))).setCell ⟨A, 2, none⟩ (.slice ra' s'.n rc')).setCell ⟨A, 3, none⟩ (.bool s'.ov)).setCell ⟨A, 4, none⟩ (.slice oa' s'.m oc')) w') := same12_any _ HL256.out (by have := HG.out.2.2.2.1; have := HK200.out; omega) (HARR.out _ HG.out.2.2.2.2.2.2) HG.out.2.1 HG.out.2.2.1
        clear HE HI' HR' HM' HF' HE' HI1 HR1 HA1 HPC HLT1 HST HBW HMK HNS HSB
        go_wp2_with fail
        refine HSM.out.mono ?_
        rintro e W7 ⟨rfl, hb7⟩
        have HG7 := Lib.hid (HG.out.on hb7)
        clear hb7 HSM HG r0 r1 r2 r3 r4 t0 t1 t2 t3 t4 y0 y1 y2 y3 y4
        go_wp2
        go_roundw
        case rel => exact ⟨k + 1, by omega, by go_num, _, _, _, _, _, _, HG7.out⟩
        case measure => simp [intOf]; omega
    
    · obtain ⟨_, _, _, _, _, _, hb⟩ := hg
      have HB := Lib.hid hb
      have g1 : ¬ (k : Int) < sl := by omega
      clear hb
      go_wp2_with fail
      refine (awake12_any _).mono ?_
      rintro e w5 ⟨rfl, hb5⟩
      have HB5 : Hid (Below w.heap.size w w5) := HB.out.trans (hb5.mono HB.out.size)
      clear hb5
      go_wp2
      go_ret
      exact ⟨rfl, HB5.out⟩

theorem walk (a : Option Addr) (len cap : Nat) (T Y : Nat → Int) (v : Option Addr) (sl sc : Nat) (F : Nat → Sp) (w : World) (w0 : IsArr w a len cap T Y) (w1 : IsSps w v sl F) :
    Calls Try.prog 3 #[.slice a len cap, .slice v sl sc] w fun e w' => e = .returned (.bool true) ∧ Below w.heap.size w w' := by
  by_cases h : 400 < len ∨ 200 < sl
  · exact no a len cap v sl sc w w0.1 w1.1 h
  · by_cases h2 : 256 < len ∨ ¬ Rises len T
    · exact errs a len cap T Y v sl sc w w0 (Nat.le_of_not_lt (fun e => h (.inl e))) (Nat.le_of_not_lt (fun e => h (.inr e))) h2
    · exact yes a len cap T Y v sl sc F w w0 (Nat.le_of_not_lt (fun e => h2 (.inl e))) (Classical.byContradiction fun e => h2 (.inr e)) (Nat.le_of_not_lt (fun e => h (.inr e))) w1
end consolePlays
end Go.Proofs.Ytbhmpfjmhjdcaaa
