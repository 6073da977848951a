/- Layer 15: what the language's own strings and unicode/utf8 answer where the program calls them, over lists of signs. -/
import Derived.Test.YtcigceaadkjenaaDoorImgShelf
import Derived.Test.YtcigceaadkjenaaDoorLaid
import Derived.Lib.Walk
import Derived.BigCall
import Derived.BigGuard
namespace Go.Proofs.YtcigceaadkjenaaDoor
open Go.RowKit Go.Shelf
set_option linter.unusedVariables false
set_option maxRecDepth 100000

/-! CutPrefix -/

theorem ipre_any (l : List UInt8) (w : World) : Calls Tryd.prog 53 #[.string (bs l), .string ⟨#[64]⟩] w fun e w' => e = .returned (.tuple #[.string (bs (if l.headD 0 = 64 then l.tail else l)), .bool (decide (l.headD 0 = 64))]) ∧ w' = w := by
  have h : Calls Tryd.prog 53 #[.string (bs l), .string (bs [64])] w fun e w' => e = .returned (.tuple #[.string (bs (Lib.trimPrefix l [64])), .bool (Lib.hasPrefix l [64])]) ∧ w' = w := Any.strings_CutPrefix lays103 (bs l) (bs [64]) w
  have e : Lib.hasPrefix l [64] = decide (l.headD 0 = 64) ∧ Lib.trimPrefix l [64] = if l.headD 0 = 64 then l.tail else l := by
    cases l with
    | nil => exact ⟨rfl, rfl⟩
    | cons c r =>
      have hp : Lib.hasPrefix (c :: r) [64] = decide (c = 64) := by
        by_cases hc : c = 64
        · subst hc; simp [Lib.hasPrefix, List.isPrefixOf]
        · have : ¬ (64 : UInt8) = c := fun e => hc e.symm
          simp [Lib.hasPrefix, List.isPrefixOf, hc, this]
      refine ⟨hp, ?_⟩
      unfold Lib.trimPrefix
      rw [hp]
      simp only [List.headD_cons, List.tail_cons, decide_eq_true_eq]
      rfl
  rw [e.1, e.2] at h
  exact h

/-! Index, Cut -/

theorem iidx_any (l : List UInt8) (w : World) : Calls Tryd.prog 62 #[.string (bs l), .string ⟨#[10]⟩] w fun e w' => e = .returned (.int .i64 (Lib.indexByte l 10)) ∧ w' = w :=
  Any.strings_Index_one lays143 (bs l) 10 w

theorem idx_spl : ∀ l : List UInt8, (Lib.indexByte l 10 = -1 ∧ splN l = [l]) ∨ ∃ i : Nat, Lib.indexByte l 10 = i ∧ i < l.length ∧ splN l = l.take i :: splN (l.drop (i + 1))
  | [] => .inl ⟨rfl, rfl⟩
  | c :: r => by
    by_cases h : c = 10
    · subst h
      exact .inr ⟨0, rfl, by simp, by rw [splN]; simp⟩
    · have hb : (c == 10) = false := by simpa using h
      rcases idx_spl r with ⟨a, b⟩ | ⟨i, a, b, d⟩
      · exact .inl ⟨by simp [Lib.indexByte, hb, a], by rw [splN, if_neg h, b]; rfl⟩
      · refine .inr ⟨i + 1, ?_, by simp; omega, by rw [splN, if_neg h, d]; rfl⟩
        simp only [Lib.indexByte, hb, a]
        have : ((i : Int) == -1) = false := by rw [beq_eq_false_iff_ne]; omega
        rw [this]
        simp

theorem idx_rem : ∀ l : List UInt8, (Lib.indexByte l 35 = -1 ∧ cutR l = l) ∨ ∃ i : Nat, Lib.indexByte l 35 = i ∧ i < l.length ∧ cutR l = l.take i
  | [] => .inl ⟨rfl, rfl⟩
  | c :: r => by
    by_cases h : c = 35
    · subst h
      exact .inr ⟨0, rfl, by simp, rfl⟩
    · rw [cutR_other c r h]
      have hb : (c == 35) = false := by simpa using h
      rcases idx_rem r with ⟨a, b⟩ | ⟨i, a, b, d⟩
      · exact .inl ⟨by simp [Lib.indexByte, hb, a], by rw [b]⟩
      · refine .inr ⟨i + 1, ?_, by simp; omega, by rw [d]; rfl⟩
        simp only [Lib.indexByte, hb, a]
        have : ((i : Int) == -1) = false := by rw [beq_eq_false_iff_ne]; omega
        rw [this]
        simp

set_option maxHeartbeats 1000000 in
theorem ilcut_any (l : List UInt8) (w : World) (hl : l.length ≤ 70000) :
    Calls Tryd.prog 50 #[.string (bs l), .string ⟨#[35]⟩] w fun e w' => ∃ x b, e = .returned (.tuple #[.string (bs (cutR l)), .string x, .bool b]) ∧ Q w w' := by
  have hsz : (bs l).size = l.length := bs_size l
  have HI : Hid (∀ w, Calls Tryd.prog 63 #[.string (bs l), .string ⟨#[35]⟩] w fun e w' => e = .returned (.int .i64 (Lib.indexByte l 35)) ∧ w' = w) := fun w => Any.stringslite_Index_one lays219 (bs l) 35 w
  rcases idx_rem l with ⟨hi, hc⟩ | ⟨i, hi, hlt, hc⟩
  · have HC : Hid (cutR l = l) := hc
    clear hc
    go_enter Tryd.func50, Tryd.ntmps50
    go_wp2_with (go_at_call 63; refine (HI.out _).mono ?_; rw [hi]; rintro e w' ⟨rfl, hw⟩; have hw := hw.symm; subst hw)
    go_ret3
    rw [HC.out]
    exact ⟨_, _, rfl, Q.refl _⟩
  · have HC : Hid (cutR l = l.take i) := hc
    clear hc
    have hx : (bs l).extract 0 i = bs (l.take i) := by
      have := bs_cut l 0 i
      rw [this]; simp
    go_enter Tryd.func50, Tryd.ntmps50
    go_wp2_with (go_at_call 63; refine (HI.out _).mono ?_; rw [hi]; rintro e w' ⟨rfl, hw⟩; have hw := hw.symm; subst hw)
    go_quiet (fail)
    go_wp2
    go_ret3
    rw [HC.out, ← hx]
    exact ⟨_, _, rfl, _, rfl⟩

set_option maxHeartbeats 400000 in
theorem icut_any (l : List UInt8) (w : World) (hl : l.length ≤ 70000) :
    Calls Tryd.prog 33 #[.string (bs l), .string ⟨#[35]⟩] w fun e w' => ∃ x b, e = .returned (.tuple #[.string (bs (cutR l)), .string x, .bool b]) ∧ Q w w' := by
  go_enter Tryd.func33, Tryd.ntmps33
  go_wp2_with (go_at_call 50; refine (ilcut_any l _ hl).mono ?_; rintro e w' ⟨x, b, rfl, hq⟩)
  go_ret3
  exact ⟨_, _, rfl, hq⟩

/-! The tables of unicode/utf8; a sign's decoding -/

/-- The two tables lie as they were laid. -/
def U8Tab (w : World) : Prop := Lib.Utf8Tabs 1 2 w
theorem u8Tab_below {w w' : World} (h : U8Tab w) (hb : Below w.heap.size w w') : U8Tab w' := Utf8Tabs_below h hb
theorem u8Tab_of_laid {l : List (String × DataW Unit)} {W : World} (h : laidMetH Tryd.prog l W) (hp : (l.all fun x => x.2.handleName?.isNone) = true) (h1 : ("unicode/utf8.first", Lib.firstData) ∈ l) (h2 : ("unicode/utf8.acceptRanges", Lib.acceptData) ∈ l) : U8Tab W := by
  rw [MakeChecks.laidMetH_plain _ _ _ hp] at h
  exact utf8Tabs_of_readsT u8types u8extra (Lib.laidMet.reads h h1) (Lib.laidMet.reads h h2)

theorem bs_get (l : List UInt8) (i : Nat) : (bs l).get! i = l.getD i 0 := by
  show (l.toArray[i]!) = _
  by_cases h : i < l.length
  · simp [List.getD, h]
  · simp [List.getD, h]
    rfl

theorem decN_spec (n b0 b1 b2 b3 : Nat) (hn : 1 ≤ n) (h0 : b0 < 256) (h1 : b1 < 256) (h2 : b2 < 256) (h3 : b3 < 256) :
    ∃ r k, Lib.decodeN n b0 b1 b2 b3 = (r, k) ∧ r ≤ 1114111 ∧ 1 ≤ k ∧ k ≤ n ∧ ((b0 < 128 ∧ r = b0 ∧ k = 1) ∨ (r ≠ 32 ∧ 128 ≤ b0 ∧ (1 < k → 128 ≤ b1) ∧ (2 < k → 128 ≤ b2) ∧ (3 < k → 128 ≤ b3) ∧ k ≤ 4)) := by
  unfold Lib.decodeN
  (repeat' split) <;> refine ⟨_, _, rfl, ?_⟩ <;> omega

theorem dec_spec (l : List UInt8) (h : 0 < l.length) :
    ∃ r k : Nat, Lib.decodeGo (bs l) = (r, k) ∧ r ≤ 1114111 ∧ 1 ≤ k ∧ k ≤ l.length ∧ ((r = 32 ∧ k = 1 ∧ l.headD 0 = 32) ∨ (r ≠ 32 ∧ ∀ c ∈ l.take k, c ≠ 32)) := by
  have hsz := bs_size l
  have e : Lib.decodeGo (bs l) = Lib.decodeN l.length (l.getD 0 0).toNat (l.getD 1 0).toNat (l.getD 2 0).toNat (l.getD 3 0).toNat := by
    unfold Lib.decodeGo
    rw [if_neg (by omega), Lib.decode_at, hsz, bs_get, bs_get, bs_get, bs_get]
    simp
  have hb : ∀ x : UInt8, x.toNat < 256 := fun x => x.toNat_lt
  obtain ⟨r, k, hd, hr, hk, hkn, hc⟩ := decN_spec l.length _ _ _ _ (by omega) (hb (l.getD 0 0)) (hb (l.getD 1 0)) (hb (l.getD 2 0)) (hb (l.getD 3 0))
  refine ⟨r, k, e.trans hd, hr, hk, hkn, ?_⟩
  have ne : ∀ x : UInt8, 128 ≤ x.toNat → x ≠ 32 := fun x hx e => by subst e; revert hx; decide
  rcases hc with ⟨c0, c1, rfl⟩ | ⟨c0, c1, c2, c3, c4, c5⟩
  · by_cases h32 : r = 32
    · refine .inl ⟨h32, rfl, ?_⟩
      apply UInt8.toNat_inj.1
      have : l.headD 0 = l.getD 0 0 := by cases l <;> rfl
      rw [this, ← c1, h32]; rfl
    · refine .inr ⟨h32, fun c hc e => ?_⟩
      subst e
      cases l with
      | nil => simp at hc
      | cons x t =>
        simp at hc
        subst hc
        exact h32 c1
  · refine .inr ⟨c0, fun c hc => ?_⟩
    obtain ⟨i, hi, rfl⟩ := List.getElem_of_mem hc
    have hik : i < k := by simp at hi; omega
    rw [List.getElem_take]
    have g : ∀ j, (hj : j < l.length) → l[j] = l.getD j 0 := fun j hj => by simp [List.getD, hj]
    rw [g i (by omega)]
    apply ne
    rcases (show i = 0 ∨ i = 1 ∨ i = 2 ∨ i = 3 by omega) with rfl | rfl | rfl | rfl
    · exact c1
    · exact c2 (by omega)
    · exact c3 (by omega)
    · exact c4 (by omega)

theorem dec_any (l : List UInt8) (w : World) (h : 0 < l.length) (hT : U8Tab w) :
    ∃ r k : Nat, r ≤ 1114111 ∧ 1 ≤ k ∧ k ≤ l.length ∧ ((r = 32 ∧ k = 1 ∧ l.headD 0 = 32) ∨ (r ≠ 32 ∧ ∀ c ∈ l.take k, c ≠ 32)) ∧
    ∀ W, Below w.heap.size w W → Calls Tryd.prog 52 #[.string (bs l)] W fun e w' => e = .returned (.tuple #[.int .i32 (r : Int), .int .i64 (k : Int)]) ∧ Below W.heap.size W w' := by
  obtain ⟨r, k, hd, hr, hk, hkn, hc⟩ := dec_spec l h
  refine ⟨r, k, hr, hk, hkn, hc, fun W hW => ?_⟩
  have := Any.utf8_DecodeRuneInString lays197 (bs l) W (u8Tab_below hT hW)
  rw [hd] at this
  exact this

theorem blank_any (r : Nat) (w : World) (hr : r ≤ 1114111) : Calls Tryd.prog 35 #[.int .i32 (r : Int)] w fun e w' => e = .returned (.bool (decide (r = 32))) ∧ w' = w := by
  by_cases h : r = 32
  · subst h
    go_enter Tryd.func35, Tryd.ntmps35
    go_wp2
    go_ret
    exact ⟨rfl, rfl⟩
  · have h1 : ((r : Int) == 32) = false := by rw [beq_eq_false_iff_ne]; omega
    go_enter Tryd.func35, Tryd.ntmps35
    go_wp2
    go_ret
    rw [decide_eq_false h]
    exact ⟨rfl, rfl⟩
end Go.Proofs.YtcigceaadkjenaaDoor
