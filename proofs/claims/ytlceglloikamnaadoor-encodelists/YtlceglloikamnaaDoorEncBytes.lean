/- Layer 4: what Bytes answers of any instructions; two rows of bytes that are the same. -/
import Derived.Test.YtlceglloikamnaaDoorEncAll
import Derived.Test.YtlceglloikamnaaDoorNumbers
namespace Go.Proofs.YtlceglloikamnaaDoor
open Go.RowKit
set_option linter.unusedVariables false

def byteL (x : Int) : List Int := [x % 256, x / 256 % 256, x / 65536 % 256, x / 16777216 % 256]
def bsTo (F : Nat → Nat → Int) : Nat → List Int
  | 0 => []
  | k + 1 => bsTo F k ++ byteL (wordF F k)
theorem bsTo_length (F : Nat → Nat → Int) : ∀ k, (bsTo F k).length = 4 * k
  | 0 => rfl
  | k + 1 => by simp [bsTo, bsTo_length F k, byteL]; omega
theorem bytesTo_4 (x : Int) : bytesTo x 4 = byteL x := by
  have e : bytesTo x 4 = [byteAt x 0, byteAt x 1, byteAt x 2, byteAt x 3] := rfl
  rw [e]
  have e0 : byteAt x 0 = x % 256 := by
    show x / 1 % 256 = x % 256
    rw [Int.ediv_one]
  rw [e0]; rfl

theorem own_base {w : World} {base base' : Nat} {e : TypeId} {size : Nat} {v : Value} {n : Nat} {xs : List Value} (h : w.ownsRow base e size v n xs) (hb : base' ≤ base) : w.ownsRow base' e size v n xs := by
  refine ⟨h.1, ?_⟩
  rcases h.2 with hn | ⟨g, cap, cur, hv, hbs, rest⟩
  · exact .inl hn
  · exact .inr ⟨g, cap, cur, hv, Nat.le_trans hb hbs, rest⟩

set_option maxHeartbeats 2000000 in
theorem ebytes_ok (F : Nat → Nat → Int) (a : Option Addr) (len cap : Nat) (w : World) (hn : len ≤ 1000) (hc : IsIns w a len F) (hok : ∀ i, i < len → okF F i = true) (tf : FormTab w) (tm : EncTab w) :
    Calls Tryd.prog 14 #[.slice a len cap] w fun e w' => ∃ v, e = .returned (.tuple #[v, .int .i64 0]) ∧ w'.ownsRow w.heap.size 5 1 v (4 * len) ((bsTo F len).map (Value.int .u8)) ∧ Below w.heap.size w w' := by
  have HBD : Hid (∀ i, i < len → 0 ≤ wordF F i ∧ wordF F i < 4294967296) := fun i hi => by
    obtain ⟨_, _, _, _, j0, j1⟩ := hc.at hi
    exact word_bd j0 j1 (hok i hi)
  have HC : Hid (IsIns w a len F) := hc
  have HX : Hid (∀ i, i < len → okF F i = true) := hok
  have HF : Hid (FormTab w) := tf
  have HM : Hid (EncTab w) := tm
  clear tf tm hc hok
  obtain ⟨i0, hi, hz0, hz1, hz2⟩ := info_parts Tryd.info5
  obtain ⟨n4, h4⟩ : ∃ n4 : Nat, n4 = 4 * len := ⟨_, rfl⟩
  have h4' : 4 * (len : Int) = (n4 : Int) := by omega
  have H4 : Hid (n4 = 4 * len) := h4
  have h4b : n4 ≤ 4000 := by omega
  clear h4
  go_enter Tryd.func14, Tryd.ntmps14
  go_wp2_with fail
  refine (eall_ok F a len cap _ hn HC.out HX.out HF.out HM.out).mono ?_
  rintro e w1 ⟨v, rfl, hown, hb⟩
  have HB1 : Hid (Below w.heap.size w w1) := hb
  have HW : Hid (∀ i, i < len → ∃ g c, v = .slice (some ⟨g, 0, none⟩) len c ∧ w1.cell? ⟨g, i, none⟩ = some (.int .u32 (wordF F i))) := fun i hi => by
    obtain ⟨g, c, rfl⟩ := owned_some hown (by omega)
    exact ⟨g, c, rfl, by rw [hown.cellAt i (by omega)]; exact wordsTo_at F len i hi⟩
  obtain ⟨p, c, hv⟩ : ∃ p c, v = .slice p len c := by
    rcases hown.2 with ⟨rfl, rfl⟩ | ⟨g, cap, cur, rfl, _⟩
    · exact ⟨_, _, rfl⟩
    · exact ⟨_, _, rfl⟩
  subst hv
  clear hown hb
  have HWC : Hid (∀ i, i < len → ∃ g, p = some ⟨g, 0, none⟩ ∧ w1.cell? ⟨g, i, none⟩ = some (.int .u32 (wordF F i))) := fun i hi => by
    obtain ⟨g, c', hv, hcell⟩ := HW.out i hi
    simp at hv
    exact ⟨g, hv.1, hcell⟩
  clear HW
  go_wp2_with (at_make; refine wpList_make_own _ rfl _ _ 43 rfl w1.heap.size 5 i0 _ 1 Tryd.underlying43 hi hz0 hz1 .i64 .i64 _ n4 rfl rfl rfl (by rw [hz2]; omega) (by unfold maxLen; omega) (Nat.le_refl _) ?_)
  intro w2 hown hg
  have hb : Below w1.heap.size w1 w2 := (Below.refl _ _).grown hg (Nat.le_refl _) (fun _ h => by cases h)
  clear hg
  go_wp2
  go_loopw [6, 23] (fun v i wr => ∃ k : Nat, k ≤ len ∧ i = .int .i64 k ∧ wr.ownsRow w1.heap.size 5 1 v (4 * k) ((bsTo F k).map (Value.int .u8)) ∧ Below w1.heap.size w1 wr) (fun _ i _ => len - (intOf i).toNat)
  case atStart => exact ⟨0, Nat.zero_le _, rfl, hown, hb⟩
  case round =>
    clear hown hb
    obtain ⟨k, hk, rfl, hown, hb⟩ := hrel
    by_cases hlt : k < len
    · obtain ⟨g, hp, hcell0⟩ := HWC.out k hlt
      have hcell := ecell_on hb hcell0
      clear hcell0
      obtain ⟨x0, x1⟩ := HBD.out k hlt
      have HWD : Hid (bsTo F (k + 1) = bsTo F k ++ byteL (wordF F k)) := rfl
      generalize wordF F k = x at hcell x0 x1 HWD
      obtain ⟨k4, hk4⟩ : ∃ k4 : Nat, k4 = 4 * k := ⟨_, rfl⟩
      rw [← hk4] at hown
      subst hp
      have hkb : k4 ≤ 4000 := by omega
      have HK4 : Hid (k4 = 4 * k) := hk4
      clear hk4
      go_wp2_with (at_builtin; refine wpList_append_own _ rfl _ _ 43 rfl w1.heap.size 5 i0 _ 1 1 Tryd.underlying43 hi hz0 hz1 hz2 rfl (by decide) _ _ _ rfl (hown.alloc _) ⟨wr.heap.size, 0, none⟩ 4 4 [.int .u8 (x % 256), .int .u8 (x / 256 % 256), .int .u8 (x / 65536 % 256), .int .u8 (x / 16777216 % 256)] rfl rfl ?c1 ?c2 ?c3 ?c4 ?c5 ?_)
      case c1 =>
        intro j u hj
        match j, hj with
        | 0, hj => simp at hj; subst hj; simp [Addr.add]
        | 1, hj => simp at hj; subst hj; simp [Addr.add]
        | 2, hj => simp at hj; subst hj; simp [Addr.add]
        | 3, hj => simp at hj; subst hj; simp [Addr.add]; omega
      case c2 =>
        intro u hu
        simp at hu
        rcases hu with rfl | rfl | rfl | rfl <;> rfl
      case c3 => unfold maxLen; omega
      case c4 => omega
      case c5 => have := hb.size; simp; omega
      intro v' w3 hown' hgrow _
      have hb' : Below w1.heap.size w1 w3 := (hb.alloc hb.size _).grown hgrow (by have := hb.size; simp; omega) (fun j hj => (hown.lt j hj).1)
      have ho : w3.ownsRow w1.heap.size 5 1 v' (4 * (k + 1)) ((bsTo F (k + 1)).map (Value.int .u8)) := by
        rw [HWD.out, List.map_append, show 4 * (k + 1) = k4 + 4 from by have := HK4.out; omega]; exact hown'
      clear hown' hgrow hown hcell
      go_wp2
      go_roundw
      case rel => exact ⟨k + 1, by omega, by go_num, ho, hb'⟩
      case measure => simp [intOf]; omega
    · obtain rfl : k = len := by omega
      go_wp2
      go_ret2
      exact ⟨_, rfl, own_base hown HB1.out.size, HB1.out.trans (hb.mono HB1.out.size)⟩

set_option maxHeartbeats 1000000 in
theorem ebytes_no (F : Nat → Nat → Int) (a : Option Addr) (len cap p : Nat) (w : World) (hn : len ≤ 1000) (hp : p < len) (hc : IsIns w a len F) (hok : ∀ i, i < p → okF F i = true) (hbad : okF F p = false) (tf : FormTab w) (tm : EncTab w) :
    Calls Tryd.prog 14 #[.slice a len cap] w fun e w' => e = .returned (.tuple #[.slice none 0 0, .int .i64 9]) ∧ Below w.heap.size w w' := by
  have HC : Hid (IsIns w a len F) := hc
  have HX : Hid (∀ i, i < p → okF F i = true) := hok
  have HY : Hid (okF F p = false) := hbad
  have HF : Hid (FormTab w) := tf
  have HM : Hid (EncTab w) := tm
  clear tf tm hc hok hbad
  go_enter Tryd.func14, Tryd.ntmps14
  go_wp2_with fail
  refine (eall_no F a len cap p _ hn hp HC.out HX.out HY.out HF.out HM.out).mono ?_
  rintro e w1 ⟨rfl, hb⟩
  go_wp2
  go_ret2
  exact ⟨rfl, hb⟩

set_option maxHeartbeats 400000 in
theorem same_zero (p p' : Option Addr) (c c' : Nat) (w : World) :
    Calls Tryd.prog 16 #[.slice p 0 c, .slice p' 0 c'] w fun e w' => e = .returned (.bool true) ∧ Q w w' := by
  go_enter Tryd.func16, Tryd.ntmps16
  go_wp2
  go_loopw [5] (fun i wr => i = .int .i64 0 ∧ Q w wr) (fun i _ => 0)
  case atStart => exact ⟨rfl, Q.refl _⟩
  case round =>
    obtain ⟨rfl, hq⟩ := hrel
    go_wp2
    go_ret
    exact ⟨rfl, hq⟩

theorem same_own (xs : List Int) (n B B' : Nat) (v v' : Value) (w : World) (hn : n ≤ maxLen) (h : w.ownsRow B 5 1 v n (xs.map (Value.int .u8))) (h' : w.ownsRow B' 5 1 v' n (xs.map (Value.int .u8))) :
    Calls Tryd.prog 16 #[v, v'] w fun e w' => e = .returned (.bool true) ∧ Q w w' := by
  by_cases hz : n = 0
  · subst hz
    obtain ⟨p, c, rfl⟩ : ∃ p c, v = .slice p 0 c := by
      rcases h.2 with ⟨rfl, _⟩ | ⟨g, cap, cur, rfl, _⟩ <;> exact ⟨_, _, rfl⟩
    obtain ⟨p', c', rfl⟩ : ∃ p c, v' = .slice p 0 c := by
      rcases h'.2 with ⟨rfl, _⟩ | ⟨g, cap, cur, rfl, _⟩ <;> exact ⟨_, _, rfl⟩
    exact same_zero p p' c c' w
  · obtain ⟨g, c, rfl⟩ := owned_some h (by omega)
    obtain ⟨g', c', rfl⟩ := owned_some h' (by omega)
    have hl : xs.length = n := by simpa using h.1
    have e : ∀ i, i < n → (xs.map (Value.int .u8))[i]? = some (.int .u8 (xs.getD i 0)) := fun i hi => by
      have hi' : i < xs.length := by omega
      simp [List.getD, hi']
    refine same_yes (fun i => xs.getD i 0) g 0 g' 0 n c c' w hn (fun i hi => ?_) (fun i hi => ?_)
    · rw [Nat.zero_add, h.cellAt i (by omega)]; exact e i hi
    · rw [Nat.zero_add, h'.cellAt i (by omega)]; exact e i hi
end Go.Proofs.YtlceglloikamnaaDoor
