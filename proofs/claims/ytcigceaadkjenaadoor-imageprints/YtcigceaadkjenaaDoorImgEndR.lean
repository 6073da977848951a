/- Layer 15: the walk of ImagePrints. -/
import Derived.Test.YtcigceaadkjenaaDoorImgEnds
import Derived.Test.YtcigceaadkjenaaDoorImgRPrint
import Derived.Test.YtcigceaadkjenaaDoorImgBack
import Derived.Test.YtcigceaadkjenaaDoorImgOpen
namespace Go.Proofs.YtcigceaadkjenaaDoor.imagePrints
open Go.RowKit
set_option linter.unusedVariables false
set_option linter.unusedSimpArgs false
set_option maxRecDepth 100000

set_option maxHeartbeats 4000000 in
theorem few (v : Value) (ps : List Prt) (w : World) (hd : RdPs w v ps) (hf : Fine ps) (hn : ps.length ≤ 30) (hm : ∀ p ∈ ps, p.2.length ≤ 1000) (tu : U8Tab w) :
    Calls Tryd.prog 5 #[v] w fun e w' => e = .returned (.bool true) ∧ Below w.heap.size w w' := by
  have hlb : lightB ps = true := by unfold lightB; exact decide_eq_true ⟨hn, hm⟩
  have HBK := Lib.hid (parse_print ps hf hlb)
  have hpl := print_len ps hm
  have HAW : Hid (∀ V, Below w.heap.size w V → Calls Tryd.prog 9 #[] V fun e w' => e = .returned (.bool true) ∧ Below V.heap.size V w') := fun V hV => awake15_any V (u8Tab_below tu hV)
  have HPA : Hid (∀ V, Below w.heap.size w V → (printL ps).length ≤ 65536 → Calls Tryd.prog 18 #[.string (bs (printL ps))] V fun e w' => ParseR V (ps, 0) e w') := fun V hV hl => by
    have := parse_any (printL ps) V hl (u8Tab_below tu hV)
    rwa [HBK.out] at this
  have HLI : Hid (Calls Tryd.prog 7 #[v] w fun e w' => e = .returned (.bool true) ∧ w' = w) := by
    have := light15_any v ps w hd (fun p hp => Nat.le_trans (hm p hp) (by decide))
    rwa [hlb] at this
  have HPR := Lib.hid (print_any v ps w hd hf (by omega) (by omega))
  have HD := Lib.hid hd
  have HOF : Hid (∀ (V : World) (u : Value), RdPs V u ps → Calls Tryd.prog 12 #[u] V fun e w' => ∃ v', e = .returned v' ∧ RdPs w' v' ps ∧ Below V.heap.size V w') := fun V u h => of15_any u ps V h (by omega)
  have HRP : Hid (∀ (V : World) (u : Value), RdPs V u ps → Calls Tryd.prog 22 #[u] V fun e w' => e = .returned (.string (bs (printL ps))) ∧ Q V w') := fun V u h => rprint15_any u ps V h hf (by omega) (by omega)
  have HS : Hid (∀ (V : World) (u u' : Value), RdPs V u ps → RdPs V u' ps → Calls Tryd.prog 20 #[u, u'] V fun e w' => e = .returned (.bool true) ∧ Q V w') := fun V u u' h h' => sameP_any (by unfold maxLen; omega) (fun p hp => Nat.le_trans (hm p hp) (by decide)) h h'
  have hsz : (bs (printL ps)).size = (printL ps).length := bs_size _
  clear hd hf hm tu hlb HBK
  generalize printL ps = L at *
  go_enter Tryd.func5, Tryd.ntmps5
  go_wp2_with fail
  refine HLI.out.mono ?_
  rintro e w0 ⟨rfl, hw⟩
  subst hw
  go_wp2_with fail
  refine HPR.out.mono ?_
  rintro e w1 ⟨rfl, hb1⟩
  have HB1 := Lib.hid hb1
  have HD1 := Lib.hid (HD.out.on hb1)
  clear hb1 HPR HLI
  go_wp2_with fail
  refine (HOF.out _ _ HD1.out).mono ?_
  rintro e w2 ⟨v2, rfl, hd2, hb2⟩
  have HB2 : Hid (Below w0.heap.size w0 w2) := HB1.out.trans (hb2.mono HB1.out.size)
  have HD2 := Lib.hid hd2
  clear hb2 hd2
  go_wp2_with fail
  refine (HRP.out _ _ HD2.out).mono ?_
  rintro e w3 ⟨rfl, m3, rfl⟩
  have HB3 : Hid (Below w0.heap.size w0 (w2.drewN m3)) := HB2.out.trans (Q.below ⟨m3, rfl⟩ _)
  obtain ⟨W3, hW3⟩ : ∃ W, w2.drewN m3 = W := ⟨_, rfl⟩
  rw [hW3] at HB3 ⊢
  clear hW3
  by_cases hlong : L.length ≤ 65536
  · go_wp2_with fail
    refine (HPA.out _ HB3.out hlong).mono ?_
    rintro e w4 ⟨v4, rfl, hp4, hb4⟩
    have HB4 : Hid (Below w0.heap.size w0 w4) := HB3.out.trans (hb4.mono HB3.out.size)
    have HD4 := Lib.hid hp4.rd
    have HDv := Lib.hid (HD.out.on HB4.out)
    clear hb4 hp4
    have HO4 := Lib.hid (HOF.out _ _ HD4.out)
    go_wp2_with (first
      | (go_at_call 12; refine HO4.out.mono ?_; rintro e w5 ⟨v5, rfl, hd5, hb5⟩; have HD5 := Lib.hid hd5; have HB5 : Hid (Below w0.heap.size w0 w5) := HB4.out.trans (hb5.mono HB4.out.size); have HO5 := Lib.hid (HOF.out w5 v (HD.out.on HB5.out)); clear HO4 hd5 hb5)
      | (go_at_call 12; refine HO5.out.mono ?_; rintro e w6 ⟨v6, rfl, hd6, hb6⟩; have HB6 : Hid (Below w0.heap.size w0 w6) := HB5.out.trans (hb6.mono HB5.out.size); have HS6 := Lib.hid (HS.out w6 _ _ (HD5.out.on hb6) hd6); clear HO5 hd6 hb6)
      | (go_at_call 20; refine HS6.out.mono ?_; rintro e w7 ⟨rfl, m7, rfl⟩; have HB7 : Hid (Below w0.heap.size w0 (w6.drewN m7)) := HB6.out.trans (Q.below ⟨m7, rfl⟩ _); clear HS6)
      | (go_at_call 9; refine (HAW.out _ HB7.out).mono ?_; rintro e w8 ⟨rfl, hb8⟩; have HB8 := Lib.hid hb8; clear hb8))
    go_ret
    exact ⟨rfl, HB7.out.trans (HB8.out.mono HB7.out.size)⟩
  · have hgt : (65536 : Int) < (L.length : Int) := by omega
    go_wp2_with (go_at_call 9; refine (HAW.out _ HB3.out).mono ?_; rintro e w8 ⟨rfl, hb8⟩; have HB8 := Lib.hid hb8; clear hb8)
    go_ret
    exact ⟨rfl, HB3.out.trans (HB8.out.mono HB3.out.size)⟩

set_option maxHeartbeats 4000000 in
theorem walk (a : Option Addr) (len cap : Nat) (ps : List Prt) (w : World) (h : IsParts w a len cap ps) (tu : U8Tab w) :
    Calls Tryd.prog 5 #[.slice a len cap] w fun e w' => e = .returned (.bool true) ∧ Below w.heap.size w w' := by
  obtain ⟨hl, hmx, hd, hf, hm⟩ := h
  by_cases c : ps.length ≤ 30 ∧ ∀ p ∈ ps, p.2.length ≤ 1000
  · exact few _ ps w hd hf c.1 c.2 tu
  · have hlb : lightB ps = false := by unfold lightB; exact decide_eq_false c
    have HLI : Hid (Calls Tryd.prog 7 #[.slice a len cap] w fun e w' => e = .returned (.bool false) ∧ w' = w) := by
      have := light15_any _ ps w hd hm
      rwa [hlb] at this
    have HAW := Lib.hid (awake15_any w tu)
    clear tu hlb hd hf hm c
    go_enter Tryd.func5, Tryd.ntmps5
    go_wp2_with (first
      | (go_at_call 7; refine HLI.out.mono ?_; rintro e w0 ⟨rfl, hw⟩; have hw := hw.symm; subst hw)
      | (go_at_call 9; refine HAW.out.mono ?_; rintro e w3 ⟨rfl, hb3⟩))
    go_ret
    exact ⟨rfl, hb3⟩
end Go.Proofs.YtcigceaadkjenaaDoor.imagePrints
