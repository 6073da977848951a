/- Layer 12: the walk of ConsoleReads. -/
import Derived.Test.YtbhmpfjmhjdcaaaConAwake
import Derived.Test.YtbhmpfjmhjdcaaaConRef
import Derived.Test.YtbhmpfjmhjdcaaaConOpen
namespace Go.Proofs.Ytbhmpfjmhjdcaaa
open Go.RowKit
set_option linter.unusedVariables false

theorem Rises.le {K : Nat} {T : Nat → Int} (h : Rises K T) : ∀ (d i : Nat), i + d < K → T i ≤ T (i + d)
  | 0, i, _ => Int.le_refl _
  | d + 1, i, hd => Int.le_trans (Rises.le h d i (by omega)) (h (i + d) (by omega))
theorem Rises.mono {K : Nat} {T : Nat → Int} (h : Rises K T) {i j : Nat} (hij : i ≤ j) (hj : j < K) : T i ≤ T j := by
  have := Rises.le h (j - i) i (by omega)
  rwa [show i + (j - i) = j from by omega] at this

/-- What comes up to the tick of i, if nothing waited: no more than sixteen. -/
def Comes (K : Nat) (T Y : Nat → Int) (t : Int) (c0 : Nat) (s : CS) : Prop :=
  s.c = c0 + s.n ∧ s.c ≤ K ∧ s.n ≤ 16 ∧ s.ov = false ∧ (∀ j, j < s.n → s.f j = Y (c0 + j)) ∧ ∀ j, j < s.n → T (c0 + j) = t
theorem Comes.up {K : Nat} {T Y : Nat → Int} {i c0 : Nat} (hr : Rises K T) (hd : ∀ k, k + 16 < K → T (k + 16) ≠ T k) (hi : i < K) (h0 : i ≤ c0) :
    ∀ (k : Nat) (s : CS), K - s.c = k → Comes K T Y (T i) c0 s → Comes K T Y (T i) c0 (s.up K T Y (T i)) ∧ i < (s.up K T Y (T i)).c
  | 0, s, hk, h => by
    rw [CS.up_end (.inl (by omega))]
    have := h.2.1
    exact ⟨h, by omega⟩
  | k + 1, s, hk, h => by
    obtain ⟨h1, h2, h3, h4, h5, h6⟩ := h
    by_cases c : T s.c ≤ T i
    · have he : T s.c = T i := Int.le_antisymm c (hr.mono (by omega) (by omega))
      have hn : s.n < 16 := by
        refine Nat.lt_of_le_of_ne h3 fun e => ?_
        refine hd c0 (by omega) ?_
        rw [show c0 + 16 = s.c from by omega, he]
        have := h6 0 (by omega)
        rw [Nat.add_zero] at this
        exact this.symm
      rw [CS.up_go (by omega) c]
      have hc : s.come Y = ⟨s.c + 1, s.n + 1, snoc s.n s.f (Y s.c), s.ov, s.m, s.g⟩ := by unfold CS.come; rw [if_pos hn]
      refine Comes.up hr hd hi h0 k (s.come Y) (by rw [CS.come_c]; omega) ?_
      rw [hc]
      refine ⟨by show s.c + 1 = c0 + (s.n + 1); omega, by show s.c + 1 ≤ K; omega, hn, h4, fun j hj => ?_, fun j hj => ?_⟩
      · by_cases e : j = s.n
        · subst e; show snoc s.n s.f (Y s.c) s.n = _; rw [snoc_at, h1]
        · have hj' : j < s.n := by have : j < s.n + 1 := hj; omega
          show snoc s.n s.f (Y s.c) j = _
          rw [snoc_lt hj']; exact h5 j hj'
      · by_cases e : j = s.n
        · subst e; rw [← h1]; exact he
        · exact h6 j (by have : j < s.n + 1 := hj; omega)
    · rw [CS.up_end (.inr (by omega))]
      refine ⟨⟨h1, h2, h3, h4, h5, h6⟩, Nat.lt_of_not_le fun e => c ?_⟩
      rw [show s.c = i from by omega]
      exact Int.le_refl _

namespace consoleReads
set_option maxRecDepth 100000 in
set_option maxHeartbeats 800000 in
theorem awakes (a : Option Addr) (len cap : Nat) (T Y : Nat → Int) (w : World) (ha : IsArr w a len cap T Y) (h : 256 < len ∨ ¬ Rises len T) :
    Calls Try.prog 5 #[.slice a len cap] w fun e w' => e = .returned (.bool true) ∧ Below w.heap.size w w' := by
  have hm := ha.1
  unfold maxLen at hm
  have HA := Lib.hid ha
  clear ha
  by_cases h1 : 256 < len
  · clear h
    go_enter Try.func5, Try.ntmps5
    go_wp2_with fail
    refine (awake12_any _).mono ?_
    rintro e w1 ⟨rfl, hb⟩
    go_wp2
    go_ret
    exact ⟨rfl, hb⟩
  · have HR2 : Hid (Calls Try.prog 9 #[.slice a len cap] w fun e w' => e = .returned (.int .i64 1) ∧ Q w w') := by
      rcases h with h | h
      · exact absurd h h1
      · exact rright_form w (by omega) HA.out h
    clear h
    go_enter Try.func5, Try.ntmps5
    go_wp2_with fail
    refine HR2.out.mono ?_
    rintro e w1 ⟨rfl, hq⟩
    have HB1 := Lib.hid (hq.below w.heap.size)
    clear hq
    go_wp2_with fail
    refine (awake12_any _).mono ?_
    rintro e w2 ⟨rfl, hb⟩
    have HB2 : Hid (Below w.heap.size w w2) := HB1.out.trans (hb.mono HB1.out.size)
    clear hb
    go_wp2
    go_ret
    exact ⟨rfl, HB2.out⟩

/-- Where the outer loop stands. -/
def Outer (w : World) (R : Nat) (S : Nat → Prop) (K : Nat) (T Y : Nat → Int) (i c : Nat) (W : World) : Prop :=
  ∃ s : CS, IsCon W R S K T Y s ∧ s.c = c ∧ s.n = 0 ∧ s.ov = false ∧ i ≤ c ∧ Below w.heap.size w W
/-- Where the inner loop stands: k of N are read. -/
def Inner (w : World) (R : Nat) (S : Nat → Prop) (K : Nat) (T Y : Nat → Int) (i c0 N k : Nat) (W : World) : Prop :=
  ∃ s : CS, IsCon W R S K T Y s ∧ s.c = c0 + N ∧ k + s.n = N ∧ s.ov = false ∧ (∀ j, j < s.n → s.f j = Y (c0 + k + j)) ∧ i < s.c ∧ s.c ≤ K ∧ N ≤ 16 ∧ Below w.heap.size w W

set_option maxRecDepth 100000 in
set_option maxHeartbeats 6400000 in
theorem yes (a : Option Addr) (len cap : Nat) (T Y : Nat → Int) (w : World) (ha : IsArr w a len cap T Y) (hl : len ≤ 256) (hr : Rises len T) :
    Calls Try.prog 5 #[.slice a len cap] w fun e w' => e = .returned (.bool true) ∧ Below w.heap.size w w' := by
  have HA := Lib.hid ha
  have HRI := Lib.hid hr
  have HR2 : Hid (Calls Try.prog 9 #[.slice a len cap] w fun e w' => e = .returned (.int .i64 0) ∧ Q w w') := rright_yes w hl ha hr
  clear ha hr
  go_enter Try.func5, Try.ntmps5
  go_wp2_with fail
  refine HR2.out.mono ?_
  rintro e w1 ⟨rfl, hq⟩
  have HB1 := Lib.hid (hq.below w.heap.size)
  clear hq HR2
  go_wp2_with fail
  go_loopw [3] (fun i wr => ∃ j : Nat, i = .int .i64 ((j : Int) + 16) ∧ (∀ k, k < j → k + 16 < len → T (k + 16) ≠ T k) ∧ Below w.heap.size w wr) (fun i _ => len + 16 - (intOf i).toNat)
  case atStart => exact ⟨0, rfl, fun k hk => absurd hk (Nat.not_lt_zero k), HB1.out⟩
  case round =>
    clear HB1
    obtain ⟨j, rfl, hd, hb⟩ := hrel
    have HD := Lib.hid hd
    have HB := Lib.hid hb
    clear hd hb
    by_cases hlt : j + 16 < len
    · obtain ⟨b, off, rfl, hcc⟩ := (HA.out.on HB.out).at (by omega)
      have c0 := (hcc j (by omega)).1
      have c1 := (hcc (j + 16) hlt).1
      have g1 : (0 : Int) ≤ (j : Int) + 16 := by omega
      have g2 : (j : Int) + 16 < len := by omega
      have g3 : ((j : Int) + 16).toNat = j + 16 := by omega
      have g4 : IntKind.i64.wrap (j : Int) = j := by rw [IntKind.wrap_i64]; omega
      have g5 : (j : Int) < len := by omega
      clear hcc
      by_cases heq : T (j + 16) = T j
      · rw [← heq] at c0
        clear heq HD
        generalize T (j + 16) = x at c0 c1
        go_wp2_with fail
        go_quiet (fail)
        go_wp2_with fail
        refine (awake12_any _).mono ?_
        rintro e w2 ⟨rfl, hb⟩
        have HB2 : Hid (Below w.heap.size w w2) := (HB.out.trans (Q.below ⟨nq, rfl⟩ _)).trans (hb.mono (by simpa using HB.out.size))
        clear hb
        go_wp2
        go_ret
        exact ⟨rfl, HB2.out⟩
      · have HD2 : Hid (∀ k, k < j + 1 → k + 16 < len → T (k + 16) ≠ T k) := fun k hk h16 => by
          by_cases e : k = j
          · subst e; exact heq
          · exact HD.out k (by omega) h16
        have hne : (T (j + 16) == T j) = false := by simpa using heq
        clear heq HD
        generalize T (j + 16) = x at c1 hne
        generalize T j = y at c0 hne
        go_wp2_with fail
        go_quiet (fail)
        go_wp2
        go_roundw
        case rel => exact ⟨j + 1, by go_num, HD2.out, HB.out.trans (Q.below ⟨_, rfl⟩ _)⟩
        case measure => simp [intOf]; omega
    · have HD2 : Hid (∀ k, k + 16 < len → T (k + 16) ≠ T k) := fun k hk => HD.out k (by omega) hk
      have hlt' : ¬ ((j : Int) + 16 < len) := by omega
      have HL := Lib.hid hl
      clear HD hlt
      go_wp2_with fail
      refine (cnew_yes wr HL.out (HA.out.on HB.out) HRI.out).mono ?_
      rintro e w2 ⟨R, S, rfl, hc, hs, hb⟩
      have HO : Hid (Outer w R S len T Y 0 0 w2) := ⟨CS.new, hc, rfl, rfl, rfl, Nat.le_refl _, HB.out.trans (hb.mono HB.out.size)⟩
      have HS : Hid (∀ k, S k → w.heap.size ≤ k) := fun k hk => Nat.le_trans HB.out.size (hs k hk)
      clear hc hs hb hlt' HB
      go_wp2_with fail
      go_loopw [6, 7, 8, 9, 10] (fun n i _ _ _ wr => ∃ i' c : Nat, i = .int .i64 (i' : Int) ∧ n = .int .i64 (c : Int) ∧ i' ≤ len ∧ Outer w R S len T Y i' c wr) (fun _ i _ _ _ _ => len - (intOf i).toNat)
      case atStart => exact ⟨0, 0, rfl, rfl, Nat.zero_le _, HO.out⟩
      case round =>
        obtain ⟨i', c, rfl, rfl, hi', s, hcon, hsc, hn0, hov, hic, hbb⟩ := hrel
        have hle := hcon.le
        have HC := Lib.hid hcon
        have HBB := Lib.hid hbb
        clear hcon hbb HO
        by_cases hlt : i' < len
        · obtain ⟨b, off, rfl, hcc⟩ := (HA.out.on HBB.out).at (by omega)
          have ct := (hcc i' hlt).1
          have g1 : (i' : Int) < len := by omega
          have HUP : Hid (∃ s', s' = s.up len T Y (T i') ∧ Comes len T Y (T i') c s' ∧ i' < s'.c) :=
            ⟨_, rfl, Comes.up HRI.out HD2.out hlt hic _ s rfl ⟨by omega, by omega, by omega, hov, fun j hj => by omega, fun j hj => by omega⟩⟩
          clear hcc hsc hn0 hov hic hle hi'
          generalize T i' = x at ct HUP
          go_wp2_with fail
          refine (cup_any x _ HC.out).mono ?_
          rintro e w3 ⟨rfl, hc3, hf3⟩
          obtain ⟨s', hs', hcm, hlt'⟩ := HUP.out
          rw [← hs'] at hc3
          have HI : Hid (Inner w R S len T Y i' c s'.n 0 w3) := ⟨s', hc3, hcm.1, by omega, hcm.2.2.2.1, fun j hj => by rw [Nat.add_zero]; exact hcm.2.2.2.2.1 j hj, hlt', hcm.2.1, hcm.2.2.1, HBB.out.trans (hf3.below HS.out HBB.out.size)⟩
          clear hc3 hf3 hs' hcm hlt' HUP HBB HC ct
          generalize s'.n = N at HI
          go_wp2_with fail
          go_loopw [6, 8, 9, 10] (fun n k _ _ wr => ∃ k' q : Nat, k = .int .i64 (k' : Int) ∧ n = .int .i64 (q : Int) ∧ q = c + k' ∧ Inner w R S len T Y i' c N k' wr) (fun _ k _ _ _ => 20 - (intOf k).toNat)
          case atStart => exact ⟨0, c, rfl, rfl, rfl, HI.out⟩
          case round =>
            clear HI
            obtain ⟨k', q, rfl, rfl, hq, s2, hc2, h1, h2, h3, h4, h5, h6, h7, h8⟩ := hrel
            have k20 : (k' : Int) < 20 := by omega
            by_cases hn : 0 < s2.n
            · obtain ⟨n2, hn2⟩ : ∃ n2, s2.n = n2 + 1 := ⟨s2.n - 1, by omega⟩
              have HR : Hid (Calls Try.prog 17 #[.pointer (some ⟨R, 0, none⟩)] wr fun e w' => e = .returned (.bool true) ∧ w' = wr) := by
                have := cready_any wr hc2
                rwa [decide_eq_true hn] at this
              have HRD : Hid (Calls Try.prog 18 #[.pointer (some ⟨R, 0, none⟩), .int .i64 0] wr fun e w' => e = .returned (.tuple #[.int .u32 (Y q % 4294967296), .int .i64 0]) ∧ Hid (Inner w R S len T Y i' c N (k' + 1) w')) := by
                have hv : s2.val 0 = Y q % 4294967296 := by
                  unfold CS.val
                  rw [if_pos rfl, if_neg (by omega), h4 0 hn, Nat.add_zero, ← hq]
                  rfl
                refine (cread_yes 0 wr (.inl rfl) hc2).mono ?_
                rintro e w' ⟨rfl, hc5, hf5⟩
                rw [hv]
                have hp : s2.rd 0 = ⟨s2.c, n2, fun i => s2.f (i + 1), s2.ov, s2.m, s2.g⟩ := by unfold CS.rd CS.pop; rw [if_pos rfl, if_neg (by omega), hn2]; rfl
                rw [hp] at hc5
                exact ⟨rfl, _, hc5, h1, by show k' + 1 + n2 = N; omega, h3, fun j hj => by show s2.f (j + 1) = _; rw [h4 (j + 1) (by have : j < n2 := hj; omega)]; congr 1; omega, h5, h6, h7, h8.trans (hf5.below HS.out h8.size)⟩
              have hql : q < len := by omega
              have gq : (q : Int) < len := by omega
              have hkN : k' < 16 := by omega
              have HQ := Lib.hid hq
              clear hc2 h1 h2 h3 h4 h5 h6 h7 h8 hn hn2 hq
              go_wp2_with fail
              refine HR.out.mono ?_
              rintro e w' ⟨rfl, hw⟩
              have hw := hw.symm
              subst hw
              go_wp2_with fail
              refine HRD.out.mono ?_
              rintro e w5 ⟨rfl, HI5⟩
              have hb5 : Below w.heap.size w w5 := by
                obtain ⟨_, _, _, _, _, _, _, _, _, h⟩ := HI5.out
                exact h
              obtain ⟨b2, off2, he, hcc⟩ := (HA.out.on hb5).at (by omega)
              simp only [Option.some.injEq, Addr.mk.injEq, and_true] at he
              obtain ⟨rfl, rfl⟩ := he
              have cy := (hcc q hql).2
              clear hcc hb5 HR HRD
              generalize Y q = y at cy ⊢
              go_wp2
              go_roundw
              case rel => exact ⟨k' + 1, q + 1, by go_num, by go_num, by have := HQ.out; omega, HI5.out⟩
              case measure => simp [intOf]; omega
            · have hn0 : s2.n = 0 := by omega
              have HR : Hid (Calls Try.prog 17 #[.pointer (some ⟨R, 0, none⟩)] wr fun e w' => e = .returned (.bool false) ∧ w' = wr) := by
                have := cready_any wr hc2
                rwa [decide_eq_false hn] at this
              have HO2 : Hid (Outer w R S len T Y (i' + 1) q wr) := ⟨s2, hc2, by omega, hn0, h3, by omega, h8⟩
              clear hc2 h1 h2 h3 h4 h5 h6 h7 h8 hn hn0 hq
              go_wp2_with fail
              refine HR.out.mono ?_
              rintro e w' ⟨rfl, hw⟩
              have hw := hw.symm
              subst hw
              go_wp2
              go_roundw
              case rel => exact ⟨i' + 1, q, by go_num, rfl, by omega, HO2.out⟩
              case measure => simp [intOf]; omega
        · have hcl : c = len := by omega
          have HNX : Hid (Calls Try.prog 19 #[.pointer (some ⟨R, 0, none⟩)] wr fun e w' => e = .returned (.tuple #[.int .u64 0, .bool false]) ∧ Q wr w') := by
            have := cnext_any wr HC.out
            rwa [if_neg (by omega), decide_eq_false (by omega)] at this
          have HOV := Lib.hid hov
          have g1 : ¬ ((i' : Int) < len) := by omega
          subst hcl
          clear hlt hsc hn0 hov hic hle hi'
          go_wp2_with fail
          refine HNX.out.mono ?_
          rintro e w3 ⟨rfl, hq⟩
          have HB3 : Hid (Below w.heap.size w w3) := HBB.out.trans (hq.below _)
          have HC3 := Lib.hid (HC.out.q hq)
          have HOVR : Hid (Calls Try.prog 15 #[.pointer (some ⟨R, 0, none⟩)] w3 fun e w' => e = .returned (.bool false) ∧ w' = w3) := by
            have := cover_any w3 HC3.out
            rwa [HOV.out] at this
          clear hq
          go_wp2_with fail
          refine HOVR.out.mono ?_
          rintro e w' ⟨rfl, hw⟩
          have hw := hw.symm
          subst hw
          go_wp2_with fail
          refine (awake12_any _).mono ?_
          rintro e w4 ⟨rfl, hb⟩
          have HB4 : Hid (Below w.heap.size w w4) := HB3.out.trans (hb.mono HB3.out.size)
          clear hb
          go_wp2
          go_ret
          exact ⟨rfl, HB4.out⟩

theorem walk (a : Option Addr) (len cap : Nat) (T Y : Nat → Int) (w : World) (w0 : IsArr w a len cap T Y) :
    Calls Try.prog 5 #[.slice a len cap] w fun e w' => e = .returned (.bool true) ∧ Below w.heap.size w w' := by
  by_cases h : 256 < len ∨ ¬ Rises len T
  · exact awakes a len cap T Y w w0 h
  · exact yes a len cap T Y w w0 (Nat.le_of_not_lt (fun e => h (.inl e))) (Classical.byContradiction fun e => h (.inr e))
end consoleReads
end Go.Proofs.Ytbhmpfjmhjdcaaa
