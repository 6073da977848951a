/- Layer 12: Up. -/
import Derived.Test.YtbhmpfjmhjdcaaaConGo
namespace Go.Proofs.Ytbhmpfjmhjdcaaa
open Go.RowKit
set_option linter.unusedVariables false

/-- How many came, as a block's cell. -/
def cameW (R : Nat) (w : World) : Nat := match w.cell? ⟨R, 1, none⟩ with
  | some (.int _ z) => z.toNat
  | _ => 0
theorem IsCon.cameW {w : World} {R : Nat} {S : Nat → Prop} {K : Nat} {T Y : Nat → Int} {s : CS} (h : IsCon w R S K T Y s) : cameW R w = s.c := by
  obtain ⟨F, A, cap, v, hR, _⟩ := h
  obtain ⟨⟨-, q1, -⟩, -⟩ := five_cells hR
  simp [Ytbhmpfjmhjdcaaa.cameW, q1]

set_option maxHeartbeats 400000 in
theorem cup_nil (t : Int) (w : World) :
    Calls Try.prog 12 #[.pointer none, .int .u64 t] w fun e w' => e = .returned (.tuple #[]) ∧ Q w w' := by
  go_enter Try.func12, Try.ntmps12
  go_wp2_with fail
  go_loopw [4, 5] (fun _ _ wr => wr = w) (fun _ _ _ => 0)
  case atStart => rfl
  case round =>
    subst hrel
    go_wp2_with fail
    refine (cnext_nil _).mono ?_
    rintro e w1 ⟨rfl, hq⟩
    go_wp2
    refine bodyPost_ret (results_none rfl _ _ _) rfl ?_
    exact ⟨rfl, by simpa using hq⟩

set_option maxHeartbeats 1600000 in
theorem cup_any {R K : Nat} {S : Nat → Prop} {T Y : Nat → Int} {s : CS} (t : Int) (w : World) (h : IsCon w R S K T Y s) :
    Calls Try.prog 12 #[.pointer (some ⟨R, 0, none⟩), .int .u64 t] w fun e w' => e = .returned (.tuple #[]) ∧ IsCon w' R S K T Y (s.up K T Y t) ∧ Fr S w w' := by
  have HC := Lib.hid h
  clear h
  go_enter Try.func12, Try.ntmps12
  go_wp2_with fail
  go_loopw [4, 5] (fun _ _ wr => ∃ s1 : CS, IsCon wr R S K T Y s1 ∧ s1.up K T Y t = s.up K T Y t ∧ Fr S w wr) (fun _ _ wr => K - cameW R wr)
  case atStart => exact ⟨s, HC.out, rfl, Fr.refl _ _⟩
  case round =>
    clear HC
    obtain ⟨s1, hc, he, hf⟩ := hrel
    have HC := Lib.hid hc
    have HE := Lib.hid he
    have HF := Lib.hid hf
    clear hc he hf
    by_cases hlt : s1.c < K
    · have HN : Hid (Calls Try.prog 19 #[.pointer (some ⟨R, 0, none⟩)] wr fun e w' => e = .returned (.tuple #[.int .u64 (T s1.c), .bool true]) ∧ Q wr w') := by
        have := cnext_any wr HC.out
        rwa [if_pos hlt, decide_eq_true hlt] at this
      by_cases ht : T s1.c ≤ t
      · have HUP : Hid ((s1.come Y).up K T Y t = s.up K T Y t) := by rw [← CS.up_go hlt ht]; exact HE.out
        have HLT := Lib.hid hlt
        clear hlt
        generalize T s1.c = x at HN ht
        go_wp2_with fail
        refine HN.out.mono ?_
        rintro e w1 ⟨rfl, hq⟩
        have HC1 := Lib.hid (HC.out.q hq)
        have HF1 : Hid (Fr S w w1) := HF.out.trans (Fr.of S (hq.below _))
        have HM : Hid (cameW R wr = s1.c) := HC.out.cameW
        clear hq
        go_wp2_with fail
        refine (ccome_any w1 HC1.out HLT.out).mono ?_
        rintro e w2 ⟨rfl, hc, hf⟩
        have HC2 := Lib.hid hc
        have HF2 : Hid (Fr S w w2) := HF1.out.trans hf
        have HM2 : Hid (cameW R w2 = s1.c + 1) := by have := hc.cameW; rw [CS.come_c] at this; exact this
        clear hc hf
        go_wp2
        go_roundw
        case rel => exact ⟨_, HC2.out, HUP.out, HF2.out⟩
        case measure => rw [HM2.out, HM.out]; have := HLT.out; omega
      · have HUP : Hid (s1 = s.up K T Y t) := by rw [← HE.out]; exact (CS.up_end (.inr (by omega))).symm
        have ht' : t < T s1.c := by omega
        clear ht hlt
        generalize T s1.c = x at HN ht'
        go_wp2_with fail
        refine HN.out.mono ?_
        rintro e w1 ⟨rfl, hq⟩
        have HC1 := Lib.hid (HC.out.q hq)
        have HF1 : Hid (Fr S w w1) := HF.out.trans (Fr.of S (hq.below _))
        clear hq
        go_wp2
        refine bodyPost_ret (results_none rfl _ _ _) rfl ?_
        exact ⟨rfl, by have := HC1.out; rwa [HUP.out] at this, HF1.out⟩
    · have HN : Hid (Calls Try.prog 19 #[.pointer (some ⟨R, 0, none⟩)] wr fun e w' => e = .returned (.tuple #[.int .u64 0, .bool false]) ∧ Q wr w') := by
        have := cnext_any wr HC.out
        rwa [if_neg hlt, decide_eq_false hlt] at this
      have HUP : Hid (s1 = s.up K T Y t) := by rw [← HE.out]; exact (CS.up_end (.inl (by omega))).symm
      clear hlt
      go_wp2_with fail
      refine HN.out.mono ?_
      rintro e w1 ⟨rfl, hq⟩
      have HC1 := Lib.hid (HC.out.q hq)
      have HF1 : Hid (Fr S w w1) := HF.out.trans (Fr.of S (hq.below _))
      clear hq
      go_wp2
      refine bodyPost_ret (results_none rfl _ _ _) rfl ?_
      exact ⟨rfl, by have := HC1.out; rwa [HUP.out] at this, HF1.out⟩
end Go.Proofs.Ytbhmpfjmhjdcaaa
