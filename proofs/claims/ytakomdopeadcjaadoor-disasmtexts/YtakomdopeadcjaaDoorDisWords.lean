/- Layer 5: walk of DisasmWords, of whatever functions answer as they are asked to. -/
import Derived.Test.YtakomdopeadcjaaDoorDisLaws
namespace Go.Proofs.YtakomdopeadcjaaDoor
open Go.RowKit
set_option linter.unusedVariables false

theorem lines_bs (f : Nat → Int) (k : Nat) : bs (linesL f (k + 1)) = bs (linesL f k) ++ bs (wordL (f k)) ++ bs [10] := by
  rw [bs_app, bs_app]
  show bs (linesL f k ++ (wordL (f k) ++ [10])) = _
  rw [List.append_assoc]

set_option maxHeartbeats 2000000 in
theorem disasmWords_walk (NP : NumP) (WP : WordP) (LP : LinesP) (f : Nat → Int) (a : Option Addr) (len cap : Nat) (w : World) (hc : IsWords w a len f) (tf : FormTab w) (tn : NameTab w) (tp : PowTab w) (tm : MatchTab w) :
    Calls Tryd.prog 5 #[.slice a len cap] w fun e w' => e = .returned (.bool true) ∧ Below w.heap.size w w' := by
  have hlm := hc.1
  unfold maxLen at hlm
  have HF : Hid (FormTab w) := tf
  have HN : Hid (NameTab w) := tn
  have HK : Hid (PowTab w) := tp
  have HM : Hid (MatchTab w) := tm
  have HP : Hid NumP := NP
  have HQ : Hid WordP := WP
  have HL : Hid LinesP := LP
  have HC : Hid (IsWords w a len f) := hc
  clear tf tn tp tm NP WP LP hc
  by_cases hbig : 500 < len
  · go_enter Tryd.func5, Tryd.ntmps5
    go_wp2_with fail
    refine (dawake5_any HP.out HQ.out _ HF.out HN.out HK.out HM.out).mono ?_
    rintro e w1 ⟨rfl, hb⟩
    go_wp2
    go_ret
    exact ⟨rfl, hb⟩
  · go_enter Tryd.func5, Tryd.ntmps5
    go_wp2
    go_loopw [3, 4] (fun s i wr => ∃ k : Nat, k ≤ len ∧ i = .int .i64 k ∧ s = .string (bs (linesL f k)) ∧ Below w.heap.size w wr) (fun _ i _ => len - (intOf i).toNat)
    case atStart => exact ⟨0, Nat.zero_le _, rfl, rfl, Below.refl _ _⟩
    case round =>
      obtain ⟨k, hk, rfl, rfl, hb⟩ := hrel
      have HB : Hid (Below w.heap.size w wr) := hb
      have hs1 : (bs (linesL f k)).size ≤ 44500 := by
        rw [bs_size]; have := lines_len f k; omega
      by_cases hlt : k < len
      · obtain ⟨b, off, ha, hcell, x0, x1⟩ := (IsWords.on HC.out hb).at hlt
        have hs2 : (bs (wordL (f k))).size ≤ 88 := by rw [bs_size]; exact word_len _
        have HLB : Hid (bs (linesL f (k + 1)) = bs (linesL f k) ++ bs (wordL (f k)) ++ bs [10]) := lines_bs f k
        generalize f k = x at hcell x0 x1 hs2 HLB
        clear hb
        have HCE : Hid (wr.cell? ⟨b, off + k, none⟩ = some (.int .u32 x)) := hcell
        subst ha
        go_wp2_with fail
        refine (rword_any x _ x0 x1).mono ?_
        rintro e w2 ⟨rfl, k2⟩
        have HB2 : Hid (Below w.heap.size w w2) := HB.out.trans (k2.mono HB.out.size)
        have hcell2 := tcell_on k2 HCE.out
        clear hcell k2
        go_wp2_with fail
        refine (HQ.out x _ x0 x1 (FormTab.below HF.out HB2.out) (NameTab.below HN.out HB2.out) (powTab_below HK.out HB2.out) (MatchTab.below HM.out HB2.out)).mono ?_
        rintro e w3 ⟨rfl, k3⟩
        have HB3 : Hid (Below w.heap.size w w3) := HB2.out.trans (k3.mono HB2.out.size)
        clear hcell2 k3
        go_wp2
        go_roundw
        case rel => exact ⟨k + 1, by omega, by go_num, by rw [HLB.out]; rfl, HB3.out⟩
        case measure => simp [intOf]; omega
      · obtain rfl : k = len := by omega
        clear hb
        go_wp2_with fail
        refine (HL.out f a k cap _ (by omega) (IsWords.on HC.out HB.out) (FormTab.below HF.out HB.out) (NameTab.below HN.out HB.out) (powTab_below HK.out HB.out) (MatchTab.below HM.out HB.out)).mono ?_
        rintro e w2 ⟨rfl, k2⟩
        have HB2 : Hid (Below w.heap.size w w2) := HB.out.trans (k2.mono HB.out.size)
        clear k2
        go_wp2_with fail
        refine (dawake5_any HP.out HQ.out _ (FormTab.below HF.out HB2.out) (NameTab.below HN.out HB2.out) (powTab_below HK.out HB2.out) (MatchTab.below HM.out HB2.out)).mono ?_
        rintro e w3 ⟨rfl, k3⟩
        go_wp2
        go_ret
        exact ⟨rfl, HB2.out.trans (k3.mono HB2.out.size)⟩
end Go.Proofs.YtakomdopeadcjaaDoor
