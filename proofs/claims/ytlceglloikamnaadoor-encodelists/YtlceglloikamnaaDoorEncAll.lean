/- Layer 4: what All answers of any instructions. -/
import Derived.Test.YtlceglloikamnaaDoorEncAny
import Derived.Test.YtlceglloikamnaaDoorInsRow
import Derived.OwnWalk
import Derived.Laws.OwnMore
namespace Go.Proofs.YtlceglloikamnaaDoor
open Go.RowKit
set_option linter.unusedVariables false

def okF (F : Nat → Nat → Int) (i : Nat) : Bool := okB (F i 0) (F i 1) (F i 2) (F i 3) (F i 4) (F i 5)
def wordF (F : Nat → Nat → Int) (i : Nat) : Int := wordOf (F i 0) (F i 1) (F i 2) (F i 3) (F i 4) (F i 5)
def wordsTo (F : Nat → Nat → Int) : Nat → List Value
  | 0 => []
  | k + 1 => wordsTo F k ++ [.int .u32 (wordF F k)]
theorem wordsTo_length (F : Nat → Nat → Int) : ∀ k, (wordsTo F k).length = k
  | 0 => rfl
  | k + 1 => by simp [wordsTo, wordsTo_length F k]
theorem wordsTo_at (F : Nat → Nat → Int) : ∀ n k, k < n → (wordsTo F n)[k]? = some (.int .u32 (wordF F k))
  | 0, k, h => absurd h (by omega)
  | n + 1, k, h => by
    have hl := wordsTo_length F n
    by_cases c : k < n
    · rw [wordsTo, List.getElem?_append_left (by omega)]
      exact wordsTo_at F n k c
    · obtain rfl : k = n := by omega
      rw [wordsTo, List.getElem?_append_right (by omega), hl, Nat.sub_self]; rfl

theorem own_on {w w' : World} {base : Nat} {e : TypeId} {size : Nat} {v : Value} {n : Nat} {xs : List Value} (h : w.ownsRow base e size v n xs) (hb : Below w.heap.size w w') : w'.ownsRow base e size v n xs := by
  refine ⟨h.1, ?_⟩
  rcases h.2 with hn | ⟨g, cap, cur, hv, hbs, hg, rest⟩
  · exact .inl hn
  · have hlt : g < w.heap.size := by
      refine Nat.lt_of_not_le fun hn => ?_
      rw [Array.getElem?_eq_none hn] at hg; cases hg
    exact .inr ⟨g, cap, cur, hv, hbs, by rw [← hg]; exact hb.block g hlt, rest⟩
theorem SixL.on {W w1 : World} {B o : Nat} {a b c d e f : Int} (h : SixL W B o a b c d e f) (hb : Below W.heap.size W w1) : SixL w1 B o a b c d e f := by
  obtain ⟨h0, h1, h2, h3, h4, h5⟩ := h
  exact ⟨ecell_on hb h0, ecell_on hb h1, ecell_on hb h2, ecell_on hb h3, ecell_on hb h4, ecell_on hb h5⟩
theorem IsIns.on {W w1 : World} {a : Option Addr} {len : Nat} {F : Nat → Nat → Int} (h : IsIns W a len F) (hb : Below W.heap.size W w1) : IsIns w1 a len F := by
  obtain ⟨hl, h⟩ := h
  refine ⟨hl, ?_⟩
  rcases h with h | ⟨b, off, ha, hc⟩
  · exact .inl h
  · exact .inr ⟨b, off, ha, fun i hi => ⟨(hc i hi).1.on hb, (hc i hi).2⟩⟩
theorem IsIns.at {W : World} {a : Option Addr} {len : Nat} {F : Nat → Nat → Int} (h : IsIns W a len F) {k : Nat} (hk : k < len) : ∃ b off, a = some ⟨b, off, none⟩ ∧ SixL W b (off + k * 6) (F k 0) (F k 1) (F k 2) (F k 3) (F k 4) (F k 5) ∧ 0 ≤ F k 4 ∧ F k 4 < 4294967296 := by
  rcases h.2 with h | ⟨b, off, ha, hc⟩
  · omega
  · exact ⟨b, off, ha, hc k hk⟩

set_option maxHeartbeats 2000000 in
theorem eall_ok (F : Nat → Nat → Int) (a : Option Addr) (len cap : Nat) (w : World) (hn : len ≤ 1000) (hc : IsIns w a len F) (hok : ∀ i, i < len → okF F i = true) (tf : FormTab w) (tm : EncTab w) :
    Calls Tryd.prog 13 #[.slice a len cap] w fun e w' => ∃ v, e = .returned (.tuple #[v, .int .i64 0]) ∧ w'.ownsRow w.heap.size 22 1 v len (wordsTo F len) ∧ Below w.heap.size w w' := by
  have HC : Hid (IsIns w a len F) := hc
  have HX : Hid (∀ i, i < len → okF F i = true) := hok
  have HF : Hid (FormTab w) := tf
  have HM : Hid (EncTab w) := tm
  clear tf tm hc hok
  obtain ⟨i0, hi, hz0, hz1, hz2⟩ := info_parts (P := Tryd.prog) (e := 22) (z := .int .u32 0) (size := 1) (bytes := 4) (by kernel_rfl)
  go_enter Tryd.func13, Tryd.ntmps13
  go_wp2_with (at_make; refine wpList_make_own _ rfl _ _ 40 rfl w.heap.size 22 i0 _ 1 Tryd.underlying40 hi hz0 hz1 .i64 .i64 _ len rfl rfl rfl (by rw [hz2]; omega) (by unfold maxLen; omega) (Nat.le_refl _) ?_)
  intro w1 hown hg
  have hb : Below w.heap.size w w1 := (Below.refl _ _).grown hg (Nat.le_refl _) (fun _ h => by cases h)
  clear hg
  go_wp2
  go_loopw [4, 14] (fun v i wr => ∃ k : Nat, k ≤ len ∧ i = .int .i64 k ∧ wr.ownsRow w.heap.size 22 1 v k (wordsTo F k) ∧ Below w.heap.size w wr) (fun _ i _ => len - (intOf i).toNat)
  case atStart => exact ⟨0, Nat.zero_le _, rfl, hown, hb⟩
  case round =>
    clear hown hb
    obtain ⟨k, hk, rfl, hown, hb⟩ := hrel
    have HOWN : Hid (wr.ownsRow w.heap.size 22 1 _ k (wordsTo F k)) := hown
    have HB : Hid (Below w.heap.size w wr) := hb
    by_cases hlt : k < len
    · obtain ⟨b, off, ha, hs, j0, j1⟩ := (IsIns.on HC.out hb).at hlt
      have HOK : Hid (okB (F k 0) (F k 1) (F k 2) (F k 3) (F k 4) (F k 5) = true) := HX.out k hlt
      have HWD : Hid (wordF F k = wordOf (F k 0) (F k 1) (F k 2) (F k 3) (F k 4) (F k 5)) := rfl
      clear hown hb
      generalize F k 0 = f0 at *
      generalize F k 1 = f1 at *
      generalize F k 2 = f2 at *
      generalize F k 3 = f3 at *
      generalize F k 4 = f4 at *
      generalize F k 5 = f5 at *
      subst ha
      obtain ⟨c0, c1, c2, c3, c4, c5⟩ := hs
      go_wp2_with fail
      refine (enc_t f0 f1 f2 f3 f4 f5 _ j0 j1 HOK.out (FormTab.below HF.out (HB.out.alloc HB.out.size _)) (EncTab.below HM.out (HB.out.alloc HB.out.size _))).mono ?_
      generalize wordOf f0 f1 f2 f3 f4 f5 = wd at *
      rintro e w2 ⟨rfl, kb⟩
      have hw2 : Below wr.heap.size wr w2 := ((Below.refl _ _).alloc (Nat.le_refl _) _).trans (kb.mono (by simp))
      have hown2 : w2.ownsRow w.heap.size 22 1 _ k (wordsTo F k) := own_on HOWN.out hw2
      have hb2 : Below w.heap.size w w2 := HB.out.trans (hw2.mono HB.out.size)
      clear kb hw2 c0 c1 c2 c3 c4 c5
      go_wp2_with (at_builtin; refine wpList_append_own _ rfl _ _ 40 rfl w.heap.size 22 i0 _ 1 4 Tryd.underlying40 hi hz0 hz1 hz2 rfl (by decide) _ _ _ rfl (hown2.alloc _) ⟨w2.heap.size, 0, none⟩ 1 1 [.int .u32 wd] rfl rfl ?c1 ?c2 ?c3 ?c4 ?c5 ?_)
      case c1 =>
        intro j u hj
        match j, hj with
        | 0, hj => simp at hj; subst hj; simp [Addr.add]
      case c2 =>
        intro u hu
        simp at hu
        subst hu; rfl
      case c3 => unfold maxLen; omega
      case c4 => omega
      case c5 => have := hb2.size; simp; omega
      intro v' w3 hown' hgrow _
      have hb' : Below w.heap.size w w3 := (hb2.alloc hb2.size _).grown hgrow (by have := hb2.size; simp; omega) (fun j hj => (hown2.lt j hj).1)
      have ho : w3.ownsRow w.heap.size 22 1 v' (k + 1) (wordsTo F (k + 1)) := by
        rw [wordsTo, HWD.out]; exact hown'
      clear hown' hgrow hown2
      go_wp2
      go_roundw
      case rel => exact ⟨k + 1, by omega, by go_num, ho, hb'⟩
      case measure => simp [intOf]; omega
    · obtain rfl : k = len := by omega
      go_wp2
      go_ret2
      exact ⟨_, rfl, hown, hb⟩

set_option maxHeartbeats 2000000 in
theorem eall_no (F : Nat → Nat → Int) (a : Option Addr) (len cap p : Nat) (w : World) (hn : len ≤ 1000) (hp : p < len) (hc : IsIns w a len F) (hok : ∀ i, i < p → okF F i = true) (hbad : okF F p = false) (tf : FormTab w) (tm : EncTab w) :
    Calls Tryd.prog 13 #[.slice a len cap] w fun e w' => e = .returned (.tuple #[.slice none 0 0, .int .i64 9]) ∧ Below w.heap.size w w' := by
  have HC : Hid (IsIns w a len F) := hc
  have HX : Hid (∀ i, i < p → okF F i = true) := hok
  have HY : Hid (okF F p = false) := hbad
  have HF : Hid (FormTab w) := tf
  have HM : Hid (EncTab w) := tm
  clear tf tm hc hok hbad
  obtain ⟨i0, hi, hz0, hz1, hz2⟩ := info_parts (P := Tryd.prog) (e := 22) (z := .int .u32 0) (size := 1) (bytes := 4) (by kernel_rfl)
  go_enter Tryd.func13, Tryd.ntmps13
  go_wp2_with (at_make; refine wpList_make_own _ rfl _ _ 40 rfl w.heap.size 22 i0 _ 1 Tryd.underlying40 hi hz0 hz1 .i64 .i64 _ len rfl rfl rfl (by rw [hz2]; omega) (by unfold maxLen; omega) (Nat.le_refl _) ?_)
  intro w1 hown hg
  have hb : Below w.heap.size w w1 := (Below.refl _ _).grown hg (Nat.le_refl _) (fun _ h => by cases h)
  clear hg
  go_wp2
  go_loopw [4, 14] (fun v i wr => ∃ k : Nat, k ≤ p ∧ i = .int .i64 k ∧ wr.ownsRow w.heap.size 22 1 v k (wordsTo F k) ∧ Below w.heap.size w wr) (fun _ i _ => p - (intOf i).toNat)
  case atStart => exact ⟨0, Nat.zero_le _, rfl, hown, hb⟩
  case round =>
    clear hown hb
    obtain ⟨k, hk, rfl, hown, hb⟩ := hrel
    have HOWN : Hid (wr.ownsRow w.heap.size 22 1 _ k (wordsTo F k)) := hown
    have HB : Hid (Below w.heap.size w wr) := hb
    have hkl : k < len := by omega
    by_cases hlt : k < p
    · obtain ⟨b, off, ha, hs, j0, j1⟩ := (IsIns.on HC.out hb).at hkl
      have HOK : Hid (okB (F k 0) (F k 1) (F k 2) (F k 3) (F k 4) (F k 5) = true) := HX.out k hlt
      have HWD : Hid (wordF F k = wordOf (F k 0) (F k 1) (F k 2) (F k 3) (F k 4) (F k 5)) := rfl
      clear hown hb
      generalize F k 0 = f0 at *
      generalize F k 1 = f1 at *
      generalize F k 2 = f2 at *
      generalize F k 3 = f3 at *
      generalize F k 4 = f4 at *
      generalize F k 5 = f5 at *
      subst ha
      obtain ⟨c0, c1, c2, c3, c4, c5⟩ := hs
      go_wp2_with fail
      refine (enc_t f0 f1 f2 f3 f4 f5 _ j0 j1 HOK.out (FormTab.below HF.out (HB.out.alloc HB.out.size _)) (EncTab.below HM.out (HB.out.alloc HB.out.size _))).mono ?_
      generalize wordOf f0 f1 f2 f3 f4 f5 = wd at *
      rintro e w2 ⟨rfl, kb⟩
      have hw2 : Below wr.heap.size wr w2 := ((Below.refl _ _).alloc (Nat.le_refl _) _).trans (kb.mono (by simp))
      have hown2 : w2.ownsRow w.heap.size 22 1 _ k (wordsTo F k) := own_on HOWN.out hw2
      have hb2 : Below w.heap.size w w2 := HB.out.trans (hw2.mono HB.out.size)
      clear kb hw2 c0 c1 c2 c3 c4 c5
      go_wp2_with (at_builtin; refine wpList_append_own _ rfl _ _ 40 rfl w.heap.size 22 i0 _ 1 4 Tryd.underlying40 hi hz0 hz1 hz2 rfl (by decide) _ _ _ rfl (hown2.alloc _) ⟨w2.heap.size, 0, none⟩ 1 1 [.int .u32 wd] rfl rfl ?c1 ?c2 ?c3 ?c4 ?c5 ?_)
      case c1 =>
        intro j u hj
        match j, hj with
        | 0, hj => simp at hj; subst hj; simp [Addr.add]
      case c2 =>
        intro u hu
        simp at hu
        subst hu; rfl
      case c3 => unfold maxLen; omega
      case c4 => omega
      case c5 => have := hb2.size; simp; omega
      intro v' w3 hown' hgrow _
      have hb' : Below w.heap.size w w3 := (hb2.alloc hb2.size _).grown hgrow (by have := hb2.size; simp; omega) (fun j hj => (hown2.lt j hj).1)
      have ho : w3.ownsRow w.heap.size 22 1 v' (k + 1) (wordsTo F (k + 1)) := by
        rw [wordsTo, HWD.out]; exact hown'
      clear hown' hgrow hown2
      go_wp2
      go_roundw
      case rel => exact ⟨k + 1, by omega, by go_num, ho, hb'⟩
      case measure => simp [intOf]; omega
    · obtain rfl : k = p := by omega
      obtain ⟨b, off, ha, hs, j0, j1⟩ := (IsIns.on HC.out hb).at hkl
      have HOK : Hid (okB (F k 0) (F k 1) (F k 2) (F k 3) (F k 4) (F k 5) = false) := HY.out
      clear hown hb
      generalize F k 0 = f0 at *
      generalize F k 1 = f1 at *
      generalize F k 2 = f2 at *
      generalize F k 3 = f3 at *
      generalize F k 4 = f4 at *
      generalize F k 5 = f5 at *
      subst ha
      obtain ⟨c0, c1, c2, c3, c4, c5⟩ := hs
      go_wp2_with fail
      refine (enc_f f0 f1 f2 f3 f4 f5 _ j0 j1 HOK.out (FormTab.below HF.out (HB.out.alloc HB.out.size _)) (EncTab.below HM.out (HB.out.alloc HB.out.size _))).mono ?_
      rintro e w2 ⟨rfl, kb⟩
      have hw2 : Below wr.heap.size wr w2 := ((Below.refl _ _).alloc (Nat.le_refl _) _).trans (kb.mono (by simp))
      have hb2 : Below w.heap.size w w2 := HB.out.trans (hw2.mono HB.out.size)
      clear kb hw2 c0 c1 c2 c3 c4 c5
      go_wp2
      go_ret2
      exact ⟨rfl, hb2⟩
end Go.Proofs.YtlceglloikamnaaDoor
