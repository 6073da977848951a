/- Layer 15: the walk of ImageParses. -/
import Derived.Test.YtcigceaadkjenaaDoorImgRParse
import Derived.Test.YtcigceaadkjenaaDoorImgParse
import Derived.Test.YtcigceaadkjenaaDoorImgSame
import Derived.Test.YtcigceaadkjenaaDoorImgOf
import Derived.Test.YtcigceaadkjenaaDoorImgAwake
namespace Go.Proofs.YtcigceaadkjenaaDoor
open Go.RowKit
set_option linter.unusedVariables false
set_option linter.unusedSimpArgs false

theorem sumL_mem {ps : List Prt} {p : Prt} (h : p ∈ ps) : p.2.length ≤ sumL ps := by
  obtain ⟨a, b, rfl⟩ := List.append_of_mem h
  rw [sumL_app]
  simp only [sumL, List.map_cons, List.sum_cons]
  omega
theorem parse_bd (hx : List UInt8 → Int) (l : List UInt8) : (parseL hx l).1.length ≤ 1024 ∧ ∀ p ∈ (parseL hx l).1, p.2.length ≤ 65536 := by
  cases h : foldW hx [] (wordsL l) with
  | none => rw [parse_none h]; simp
  | some ps =>
    rw [parse_some h]
    cases q : longL ps with
    | true => simp
    | false =>
      simp only [longL, decide_eq_false_iff_not, not_or, Nat.not_lt] at q
      simp only [Bool.false_eq_true, if_false]
      exact ⟨q.1, fun p hp => Nat.le_trans (sumL_mem hp) q.2⟩
end Go.Proofs.YtcigceaadkjenaaDoor

namespace Go.Proofs.YtcigceaadkjenaaDoor.imageParses
open Go.RowKit
set_option linter.unusedVariables false
set_option linter.unusedSimpArgs false

set_option maxRecDepth 100000 in
set_option maxHeartbeats 4000000 in
theorem short (l : List UInt8) (w : World) (hl : l.length ≤ 5000) (tu : U8Tab w) :
    Calls Tryd.prog 4 #[.string (bs l)] w fun e w' => e = .returned (.bool true) ∧ Below w.heap.size w w' := by
  have hsz : (bs l).size = l.length := bs_size l
  have HAW : Hid (∀ V, Below w.heap.size w V → Calls Tryd.prog 9 #[] V fun e w' => e = .returned (.bool true) ∧ Below V.heap.size V w') := fun V hV => awake15_any V (u8Tab_below tu hV)
  have HP := Lib.hid (parse_any l w (by omega) tu)
  have HR : Hid (∀ V, _) := fun V => rparse15_any l V (by omega)
  obtain ⟨hn, hm⟩ := parse_bd hexN l
  have HM := Lib.hid hm
  clear hm tu
  generalize parseL hexN l = PL at *
  obtain ⟨ps, E⟩ := PL
  simp only at hn HM
  go_enter Tryd.func4, Tryd.ntmps4
  go_wp2_with fail
  refine HP.out.mono ?_
  rintro e w1 ⟨v1, rfl, hp1, hb1⟩
  have HB1 := Lib.hid hb1
  have HD1 := Lib.hid hp1.rd
  clear hb1 hp1 HP
  go_wp2_with fail
  refine (HR.out _).mono ?_
  rintro e w2 ⟨v2, rfl, hp2, hb2⟩
  have HB2 : Hid (Below w.heap.size w w2) := HB1.out.trans (hb2.mono HB1.out.size)
  have HD2 := Lib.hid hp2.rd
  have HD1' := Lib.hid (HD1.out.on hb2)
  have HOF := Lib.hid (of15_any v1 ps w2 HD1'.out (by omega))
  clear hb2 hp2 HR HD1 HB1
  go_wp2_with (first
    | (go_at_call 12; refine HOF.out.mono ?_; rintro e w3 ⟨v3, rfl, hd3, hb3⟩; have HS := Lib.hid (sameP_any (by unfold maxLen; omega) (fun p hp => Nat.le_trans (HM.out p hp) (by decide)) hd3 (HD2.out.on hb3)); have HB3 : Hid (Below w.heap.size w w3) := HB2.out.trans (hb3.mono HB2.out.size); clear hd3 hb3 HOF)
    | (go_at_call 20; refine HS.out.mono ?_; rintro e w4 ⟨rfl, k, rfl⟩; have HBm : Hid (Below w.heap.size w (w3.drewN k)) := HB3.out.trans (Q.below ⟨k, rfl⟩ _); clear HS)
    | (go_at_call 9; refine (HAW.out _ HBm.out).mono ?_; rintro e w5 ⟨rfl, hb5⟩; have HB5 := Lib.hid hb5; clear hb5))
  go_ret
  exact ⟨rfl, HBm.out.trans (HB5.out.mono HBm.out.size)⟩

set_option maxRecDepth 100000 in
set_option maxHeartbeats 4000000 in
theorem middle (l : List UInt8) (w : World) (hl : 5000 < l.length) (hm : l.length ≤ 65536) (tu : U8Tab w) :
    Calls Tryd.prog 4 #[.string (bs l)] w fun e w' => e = .returned (.bool true) ∧ Below w.heap.size w w' := by
  have hsz : (bs l).size = l.length := bs_size l
  have HAW := Lib.hid (awake15_any w tu)
  clear tu
  go_enter Tryd.func4, Tryd.ntmps4
  go_wp2_with fail
  refine HAW.out.mono ?_
  rintro e w3 ⟨rfl, hb3⟩
  go_wp2
  go_ret
  exact ⟨rfl, hb3⟩

set_option maxRecDepth 100000 in
set_option maxHeartbeats 4000000 in
theorem longer (l : List UInt8) (w : World) (hl : 65536 < l.length) (hm : l.length ≤ maxLen) (tu : U8Tab w) :
    Calls Tryd.prog 4 #[.string (bs l)] w fun e w' => e = .returned (.bool true) ∧ Below w.heap.size w w' := by
  have hsz : (bs l).size = l.length := bs_size l
  have HAW : Hid (∀ V, Below w.heap.size w V → Calls Tryd.prog 9 #[] V fun e w' => e = .returned (.bool true) ∧ Below V.heap.size V w') := fun V hV => awake15_any V (u8Tab_below tu hV)
  have HP := Lib.hid (parse_over l w hl hm)
  unfold maxLen at hm
  clear tu
  go_enter Tryd.func4, Tryd.ntmps4
  go_wp2_with fail
  refine HP.out.mono ?_
  rintro e w1 ⟨v1, rfl, hp1, hb1⟩
  have HB1 := Lib.hid hb1
  obtain ⟨a1, c1, rfl, _⟩ := hp1.rd
  clear hb1 hp1 HP
  go_wp2_with (go_at_call 9; refine (HAW.out _ HB1.out).mono ?_; rintro e w5 ⟨rfl, hb5⟩; have HB5 := Lib.hid hb5; clear hb5)
  go_ret
  exact ⟨rfl, HB1.out.trans (HB5.out.mono HB1.out.size)⟩

theorem walk (s : ByteArray) (w : World) (w0 : s.size ≤ maxLen) (tu : U8Tab w) :
    Calls Tryd.prog 4 #[.string s] w fun e w' => e = .returned (.bool true) ∧ Below w.heap.size w w' := by
  obtain ⟨l, rfl⟩ : ∃ l, s = bs l := ⟨s.data.toList, by simp [bs]⟩
  rw [bs_size] at w0
  rcases Nat.lt_or_ge 65536 l.length with h | h
  · exact longer l w h w0 tu
  · rcases Nat.lt_or_ge 5000 l.length with h' | h'
    · exact middle l w h' h tu
    · exact short l w h' tu
end Go.Proofs.YtcigceaadkjenaaDoor.imageParses
