/- Layer 15: the walk of ImageLays. -/
import Derived.Test.YtcigceaadkjenaaDoorImgEnds
import Derived.Test.YtcigceaadkjenaaDoorImgLay
import Derived.Test.YtcigceaadkjenaaDoorB1
namespace Go.Proofs.YtcigceaadkjenaaDoor.imageLays
open Go.RowKit
set_option linter.unusedVariables false
set_option linter.unusedSimpArgs false
set_option maxRecDepth 100000

theorem light_long {ps : List Prt} (hn : ps.length ≤ 30) (hm : ∀ p ∈ ps, p.2.length ≤ 1000) : longL ps = false := by
  have h2 := sumL_le ps hm
  unfold longL
  exact decide_eq_false (by omega)

set_option maxHeartbeats 8000000 in
theorem small (K : Nat) (v : Value) (ps : List Prt) (w : World) (hd : RdPs w v ps) (hf : Fine ps) (hn : ps.length ≤ 30) (hm : ∀ p ∈ ps, p.2.length ≤ 1000) (h1 : 1 ≤ K) (hK : K ≤ 64) (tu : U8Tab w) :
    Calls Tryd.prog 3 #[.int .i64 (64 * (K : Int)), v] w fun e w' => e = .returned (.bool true) ∧ Below w.heap.size w w' := by
  have hlb : lightB ps = true := by unfold lightB; exact decide_eq_true ⟨hn, hm⟩
  have hll := light_long hn hm
  have hmx : ∀ p ∈ ps, p.2.length ≤ maxLen := fun p hp => Nat.le_trans (hm p hp) (by decide)
  have HAW : Hid (∀ V, Below w.heap.size w V → Calls Tryd.prog 9 #[] V fun e w' => e = .returned (.bool true) ∧ Below V.heap.size V w') := fun V hV => awake15_any V (u8Tab_below tu hV)
  have HLI : Hid (Calls Tryd.prog 7 #[v] w fun e w' => e = .returned (.bool true) ∧ w' = w) := by
    have := light15_any v ps w hd hmx
    rwa [hlb] at this
  have HRI : Hid (∀ W : World, Calls Tryd.prog 8 #[.int .i64 (64 * (K : Int))] W fun e w' => e = .returned (.bool true) ∧ w' = W) := fun W => by
    have := right10_any (64 * (K : Int)) W
    rwa [rightB_t (by omega)] at this
  have HNE : Hid (∀ W : World, _) := fun W => new_yes K W h1 (by omega)
  have m30 : ∀ w : World, (Instr.makeSlice 30 (.int .i64 (64 * (K : Int))) (.int .i64 (64 * (K : Int)))).run Tryd.prog w = .ok (.slice (some ⟨w.heap.size, 0, none⟩) (64 * K) (64 * K)) (w.alloc (.cells (madeCells (Value.int .u8 0).cells (64 * K)) 5)) := fun w => by
    obtain ⟨i, hi, hz0, hz1, hz2⟩ := info_parts Tryd.info5
    have := run_make (P := Tryd.prog) w 30 5 i (.int .u8 0) Tryd.underlying30 hi hz0 .i64 .i64 (64 * (K : Int)) (64 * (K : Int)) (by omega) (Int.le_refl _) (by rw [hz2]; omega) (by omega)
    rw [hz1, show (64 * (K : Int)).toNat = 64 * K from by omega, Nat.mul_one] at this
    exact this
  obtain ⟨c0, hc0⟩ : ∃ c, c = madeCells (Value.int .u8 0).cells (64 * K) := ⟨_, rfl⟩
  have HC0 : Hid (∀ i, i < 64 * K → c0[i]? = some (.int .u8 0)) := fun i hi => by
    rw [hc0]
    refine made_at hi ?_
    simp [Value.cells, Nat.mod_one]
  rw [← hc0] at m30
  clear hc0
  have HNEW : Hid (∀ W : World, RowB (W.alloc (.cells c0 5)) W.heap.size (64 * K) (fun _ => 0)) := fun W i hi => by
    rw [World.cell?_alloc_at _ _ _ _ rfl]; exact HC0.out i hi
  have HBY : Hid (∀ W R P b, IsRam W R P K b (fun _ => false) (fun _ => 0) → Calls Tryd.prog 17 #[.pointer (some ⟨R, 0, none⟩)] W fun e w' => ∃ B, e = .returned (.slice (some ⟨B, 0, none⟩) (64 * K) (64 * K)) ∧ W.heap.size ≤ B ∧ RowB w' B (64 * K) b ∧ Below W.heap.size W w') := fun W R P b h => bytes_any R P K _ _ _ W h1 (by omega) h
  have HSM : Hid (∀ W B B' c b, RowB W B (64 * K) b → RowB W B' (64 * K) b → Calls Tryd.prog 16 #[.slice (some ⟨B, 0, none⟩) (64 * K) (64 * K), .slice (some ⟨B', 0, none⟩) (64 * K) c] W fun e w' => e = .returned (.bool true) ∧ Q W w') := fun W B B' c b h h' =>
    same_yes b B 0 B' 0 (64 * K) _ _ W (by unfold maxLen; omega) (fun i hi => by rw [Nat.zero_add]; exact h i hi) (fun i hi => by rw [Nat.zero_add]; exact h' i hi)
  have HOF : Hid (∀ (V : World), Below w.heap.size w V → Calls Tryd.prog 12 #[v] V fun e w' => ∃ v', e = .returned v' ∧ RdPs w' v' ps ∧ Below V.heap.size V w') := fun V hV => of15_any v ps V (hd.on hV) (by omega)
  have HRC : Hid (∀ (V : World) (u : Value) (B : Option Addr) (c : Nat), RdPs V u ps → Calls Tryd.prog 11 #[u, .slice B (64 * K) c] V fun e w' => e = .returned (.int .i64 (chkZ K ps)) ∧ Q V w') := fun V u B c h => rcheck15_any K u ps B c V h hf (by omega) (by omega) hmx hll
  have HCK : Hid (∀ (V : World), Below w.heap.size w V → Calls Tryd.prog 13 #[v, .int .i64 (64 * (K : Int))] V fun e w' => e = .returned (.int .i64 (chkZ K ps)) ∧ Below V.heap.size V w') := fun V hV => check15_any K v ps V (hd.on hV) hf (by omega) (by omega) hmx hll
  have HLN : Hid (∀ V : World, _) := fun V => lay_nil v V
  have HS4 : (64 * (K : Int)) ≤ 4096 := by omega
  rcases chk_cases K ps with ⟨hz, hfit⟩ | hz
  · have HLA : Hid (∀ (V : World) (R P : Nat), Below w.heap.size w V → w.heap.size ≤ P → IsRam V R P K (fun _ => 0) (fun _ => false) (fun _ => 0) → Calls Tryd.prog 14 #[.pointer (some ⟨R, 0, none⟩), v] V fun e w' => e = .returned (.int .i64 0) ∧ IsRam w' R P K (layB (fun _ => 0) ps) (fun _ => false) (fun _ => 0) ∧ Below w.heap.size w w' ∧ Bar P V w') := fun V R P hV hP h => lay_yes K R P v ps _ _ _ w V hd hV hP h hf (by omega) (by omega) hmx hll hfit
    have HRL : Hid (∀ (V : World) (u : Value) (B : Nat), RdPs V u ps → RowB V B (64 * K) (fun _ => 0) → Calls Tryd.prog 15 #[.slice (some ⟨B, 0, none⟩) (64 * K) (64 * K), u] V fun e w' => ∃ B' c, e = .returned (.slice (some ⟨B', 0, none⟩) (64 * K) c) ∧ RowB w' B' (64 * K) (layB (fun _ => 0) ps) ∧ Below V.heap.size V w') := fun V u B h hB => rlay15_any K u ps B (64 * K) _ V h hf (by omega) hB (Nat.le_refl _) (by omega) hmx hfit
    rw [hz] at HRC HCK
    clear hd hf hn hm hmx hll hlb tu hz hfit
    go_enter Tryd.func3, Tryd.ntmps3
    go_wp2_with (first
      | (go_at_call 7; refine HLI.out.mono ?_; rintro e w0 ⟨rfl, hw⟩; have hw := hw.symm; subst hw)
      | (go_at_call 8; refine (HRI.out _).mono ?_; rintro e w0 ⟨rfl, hw⟩; have hw := hw.symm; subst hw)
      | (go_at_call 10; refine (HNE.out _).mono ?_; rintro e w1 ⟨R, rfl, hR, ⟨P, hP, hi1⟩, hb1⟩; have HP : Hid (w.heap.size ≤ P) := hP; have HI1 := Lib.hid hi1; have HB1 := Lib.hid hb1; clear hi1 hb1 hR hP))
    obtain ⟨W2, hW2⟩ : ∃ W, w1.alloc (.cells c0 5) = W := ⟨_, rfl⟩
    have HB2 : Hid (Below w.heap.size w W2) := by rw [← hW2]; exact HB1.out.alloc HB1.out.size _
    have HI2 : Hid (IsRam W2 R P K (fun _ => 0) (fun _ => false) (fun _ => 0)) := by rw [← hW2]; exact HI1.out.on ((Below.refl _ _).alloc (Nat.le_refl _) _)
    have HR2 : Hid (RowB W2 w1.heap.size (64 * K) (fun _ => 0)) := by rw [← hW2]; exact HNEW.out w1
    have HNP : Hid (w1.heap.size ≠ P) := by have := HI1.out.lt.2; show _ ≠ _; omega
    simp only [hW2]
    clear hW2 HI1 HB1 m30 HNEW HC0 HNE HRI HLI
    generalize w1.heap.size = B0 at *
    refine (HOF.out W2 HB2.out).mono ?_
    rintro e w3 ⟨v3, rfl, hd3, hb3⟩
    have HB3 : Hid (Below w.heap.size w w3) := HB2.out.trans (hb3.mono HB2.out.size)
    have HI3 := Lib.hid (HI2.out.on hb3)
    have HR3 := Lib.hid (HR2.out.on hb3)
    have HD3 := Lib.hid hd3
    clear hd3 hb3
    go_wp2_with fail
    refine (HRC.out w3 v3 _ _ HD3.out).mono ?_
    rintro e w4 ⟨rfl, hq4⟩
    have HB4 : Hid (Below w.heap.size w w4) := HB3.out.trans (hq4.below _)
    have HI4 := Lib.hid (HI3.out.q hq4)
    have HR4 := Lib.hid (HR3.out.on (hq4.below _))
    clear hq4
    go_wp2_with fail
    refine (HCK.out w4 HB4.out).mono ?_
    rintro e w5 ⟨rfl, hb5⟩
    have HB5 : Hid (Below w.heap.size w w5) := HB4.out.trans (hb5.mono HB4.out.size)
    have HI5 := Lib.hid (HI4.out.on hb5)
    have HR5 := Lib.hid (HR4.out.on hb5)
    clear hb5
    go_wp2_with fail
    refine (HLA.out w5 R P HB5.out HP.out HI5.out).mono ?_
    rintro e w6 ⟨rfl, hi6, hb6, hbar6⟩
    have HB6 := Lib.hid hb6
    have HI6 := Lib.hid hi6
    have HR6 := Lib.hid (HR5.out.bar hbar6 HNP.out)
    clear hb6 hi6 hbar6
    go_wp2_with fail
    refine (HOF.out w6 HB6.out).mono ?_
    rintro e w7 ⟨v7, rfl, hd7, hb7⟩
    have HB7 : Hid (Below w.heap.size w w7) := HB6.out.trans (hb7.mono HB6.out.size)
    have HI7 := Lib.hid (HI6.out.on hb7)
    have HR7 := Lib.hid (HR6.out.on hb7)
    have HD7 := Lib.hid hd7
    clear hd7 hb7
    go_wp2_with fail
    refine (HRL.out w7 v7 B0 HD7.out HR7.out).mono ?_
    rintro e w8 ⟨B8, c8, rfl, hr8, hb8⟩
    have HB8 : Hid (Below w.heap.size w w8) := HB7.out.trans (hb8.mono HB7.out.size)
    have HI8 := Lib.hid (HI7.out.on hb8)
    have HR8 := Lib.hid hr8
    clear hr8 hb8
    go_wp2_with (first
      | (go_at_call 17; refine (HBY.out _ R P _ HI8.out).mono ?_; rintro e w9 ⟨B9, rfl, _, hr9, hb9⟩; have HB9 : Hid (Below w.heap.size w w9) := HB8.out.trans (hb9.mono HB8.out.size); have HS9 := Lib.hid (HSM.out w9 B9 B8 c8 _ hr9 (HR8.out.on hb9)); clear hr9 hb9)
      | (go_at_call 16; refine HS9.out.mono ?_; rintro e w10 ⟨rfl, m, rfl⟩; have HB10 : Hid (Below w.heap.size w (w9.drewN m)) := HB9.out.trans (Q.below ⟨m, rfl⟩ _); clear HS9)
      | (go_at_call 14; refine (HLN.out _).mono ?_; rintro e w11 ⟨rfl, hw⟩; have hw := hw.symm; subst hw)
      | (go_at_call 9; refine (HAW.out _ HB10.out).mono ?_; rintro e w12 ⟨rfl, hb12⟩; have HB12 := Lib.hid hb12; clear hb12))
    go_ret
    exact ⟨rfl, HB10.out.trans (HB12.out.mono HB10.out.size)⟩
  · have HLA : Hid (∀ (V : World) (R P : Nat), Below w.heap.size w V → IsRam V R P K (fun _ => 0) (fun _ => false) (fun _ => 0) → Calls Tryd.prog 14 #[.pointer (some ⟨R, 0, none⟩), v] V fun e w' => e = .returned (.int .i64 6) ∧ Below V.heap.size V w') := fun V R P hV h => lay_no K R P v ps V (hd.on hV) hf (by omega) (by omega) hmx hll h.ptr hz
    rw [hz] at HRC HCK
    clear hd hf hn hm hmx hll hlb tu hz
    go_enter Tryd.func3, Tryd.ntmps3
    go_wp2_with (first
      | (go_at_call 7; refine HLI.out.mono ?_; rintro e w0 ⟨rfl, hw⟩; have hw := hw.symm; subst hw)
      | (go_at_call 8; refine (HRI.out _).mono ?_; rintro e w0 ⟨rfl, hw⟩; have hw := hw.symm; subst hw)
      | (go_at_call 10; refine (HNE.out _).mono ?_; rintro e w1 ⟨R, rfl, hR, ⟨P, hP, hi1⟩, hb1⟩; have HP : Hid (w.heap.size ≤ P) := hP; have HI1 := Lib.hid hi1; have HB1 := Lib.hid hb1; clear hi1 hb1 hR hP))
    obtain ⟨W2, hW2⟩ : ∃ W, w1.alloc (.cells c0 5) = W := ⟨_, rfl⟩
    have HB2 : Hid (Below w.heap.size w W2) := by rw [← hW2]; exact HB1.out.alloc HB1.out.size _
    have HI2 : Hid (IsRam W2 R P K (fun _ => 0) (fun _ => false) (fun _ => 0)) := by rw [← hW2]; exact HI1.out.on ((Below.refl _ _).alloc (Nat.le_refl _) _)
    have HR2 : Hid (RowB W2 w1.heap.size (64 * K) (fun _ => 0)) := by rw [← hW2]; exact HNEW.out w1
    have HNP : Hid (w1.heap.size ≠ P) := by have := HI1.out.lt.2; show _ ≠ _; omega
    simp only [hW2]
    clear hW2 HI1 HB1 m30 HNEW HC0 HNE HRI HLI
    generalize w1.heap.size = B0 at *
    refine (HOF.out W2 HB2.out).mono ?_
    rintro e w3 ⟨v3, rfl, hd3, hb3⟩
    have HB3 : Hid (Below w.heap.size w w3) := HB2.out.trans (hb3.mono HB2.out.size)
    have HI3 := Lib.hid (HI2.out.on hb3)
    have HR3 := Lib.hid (HR2.out.on hb3)
    have HD3 := Lib.hid hd3
    clear hd3 hb3
    go_wp2_with fail
    refine (HRC.out w3 v3 _ _ HD3.out).mono ?_
    rintro e w4 ⟨rfl, hq4⟩
    have HB4 : Hid (Below w.heap.size w w4) := HB3.out.trans (hq4.below _)
    have HI4 := Lib.hid (HI3.out.q hq4)
    have HR4 := Lib.hid (HR3.out.on (hq4.below _))
    clear hq4
    go_wp2_with fail
    refine (HCK.out w4 HB4.out).mono ?_
    rintro e w5 ⟨rfl, hb5⟩
    have HB5 : Hid (Below w.heap.size w w5) := HB4.out.trans (hb5.mono HB4.out.size)
    have HI5 := Lib.hid (HI4.out.on hb5)
    have HR5 := Lib.hid (HR4.out.on hb5)
    clear hb5
    go_wp2_with fail
    refine (HLA.out w5 R P HB5.out HI5.out).mono ?_
    rintro e w8 ⟨rfl, hb6⟩
    have HB8 : Hid (Below w.heap.size w w8) := HB5.out.trans (hb6.mono HB5.out.size)
    have HI8 := Lib.hid (HI5.out.on hb6)
    have HR8 := Lib.hid (HR5.out.on hb6)
    clear hb6
    go_wp2_with (first
      | (go_at_call 17; refine (HBY.out _ R P _ HI8.out).mono ?_; rintro e w9 ⟨B9, rfl, _, hr9, hb9⟩; have HB9 : Hid (Below w.heap.size w w9) := HB8.out.trans (hb9.mono HB8.out.size); have HS9 := Lib.hid (HSM.out w9 B9 B0 (64 * K) _ hr9 (HR8.out.on hb9)); clear hr9 hb9)
      | (go_at_call 16; refine HS9.out.mono ?_; rintro e w10 ⟨rfl, m, rfl⟩; have HB10 : Hid (Below w.heap.size w (w9.drewN m)) := HB9.out.trans (Q.below ⟨m, rfl⟩ _); clear HS9)
      | (go_at_call 14; refine (HLN.out _).mono ?_; rintro e w11 ⟨rfl, hw⟩; have hw := hw.symm; subst hw)
      | (go_at_call 9; refine (HAW.out _ HB10.out).mono ?_; rintro e w12 ⟨rfl, hb12⟩; have HB12 := Lib.hid hb12; clear hb12))
    go_ret
    exact ⟨rfl, HB10.out.trans (HB12.out.mono HB10.out.size)⟩

set_option maxHeartbeats 4000000 in
theorem walk (n : Int) (a : Option Addr) (len cap : Nat) (ps : List Prt) (w : World) (w0 : (Lit.int .i64 n).wf = true) (h : IsParts w a len cap ps) (tu : U8Tab w) :
    Calls Tryd.prog 3 #[.int .i64 n, .slice a len cap] w fun e w' => e = .returned (.bool true) ∧ Below w.heap.size w w' := by
  obtain ⟨hl, hmx, hd, hf, hm⟩ := h
  have HAW := Lib.hid (awake15_any w tu)
  by_cases c : ps.length ≤ 30 ∧ ∀ p ∈ ps, p.2.length ≤ 1000
  · by_cases r : rightB n = true
    · obtain ⟨K, rfl, h1, h2⟩ := rightB_yes r
      by_cases h64 : K ≤ 64
      · exact small K _ ps w hd hf c.1 c.2 h1 h64 tu
      · have hlb : lightB ps = true := by unfold lightB; exact decide_eq_true c
        have HLI : Hid (Calls Tryd.prog 7 #[.slice a len cap] w fun e w' => e = .returned (.bool true) ∧ w' = w) := by
          have := light15_any _ ps w hd hm
          rwa [hlb] at this
        have HRI : Hid (∀ W : World, Calls Tryd.prog 8 #[.int .i64 (64 * (K : Int))] W fun e w' => e = .returned (.bool true) ∧ w' = W) := fun W => by rw [← r]; exact right10_any _ W
        have hgt : (4096 : Int) < 64 * (K : Int) := by omega
        clear tu hlb hd hf hm c r
        go_enter Tryd.func3, Tryd.ntmps3
        go_wp2_with (first
          | (go_at_call 7; refine HLI.out.mono ?_; rintro e w0 ⟨rfl, hw⟩; have hw := hw.symm; subst hw)
          | (go_at_call 8; refine (HRI.out _).mono ?_; rintro e w0 ⟨rfl, hw⟩; have hw := hw.symm; subst hw)
          | (go_at_call 9; refine HAW.out.mono ?_; rintro e w3 ⟨rfl, hb3⟩))
        go_ret
        exact ⟨rfl, hb3⟩
    · have hr : rightB n = false := by simpa using r
      have hlb : lightB ps = true := by unfold lightB; exact decide_eq_true c
      have HLI : Hid (Calls Tryd.prog 7 #[.slice a len cap] w fun e w' => e = .returned (.bool true) ∧ w' = w) := by
        have := light15_any _ ps w hd hm
        rwa [hlb] at this
      have HRI : Hid (∀ W : World, Calls Tryd.prog 8 #[.int .i64 n] W fun e w' => e = .returned (.bool false) ∧ w' = W) := fun W => by rw [← hr]; exact right10_any _ W
      clear tu hlb hd hf hm c r hr
      go_enter Tryd.func3, Tryd.ntmps3
      go_wp2_with (first
        | (go_at_call 7; refine HLI.out.mono ?_; rintro e w0 ⟨rfl, hw⟩; have hw := hw.symm; subst hw)
        | (go_at_call 8; refine (HRI.out _).mono ?_; rintro e w0 ⟨rfl, hw⟩; have hw := hw.symm; subst hw)
        | (go_at_call 9; refine HAW.out.mono ?_; rintro e w3 ⟨rfl, hb3⟩))
      go_ret
      exact ⟨rfl, hb3⟩
  · have hlb : lightB ps = false := by unfold lightB; exact decide_eq_false c
    have HLI : Hid (Calls Tryd.prog 7 #[.slice a len cap] w fun e w' => e = .returned (.bool false) ∧ w' = w) := by
      have := light15_any _ ps w hd hm
      rwa [hlb] at this
    clear tu hlb hd hf hm c
    go_enter Tryd.func3, Tryd.ntmps3
    go_wp2_with (first
      | (go_at_call 7; refine HLI.out.mono ?_; rintro e w0 ⟨rfl, hw⟩; have hw := hw.symm; subst hw)
      | (go_at_call 9; refine HAW.out.mono ?_; rintro e w3 ⟨rfl, hb3⟩))
    go_ret
    exact ⟨rfl, hb3⟩
end Go.Proofs.YtcigceaadkjenaaDoor.imageLays
