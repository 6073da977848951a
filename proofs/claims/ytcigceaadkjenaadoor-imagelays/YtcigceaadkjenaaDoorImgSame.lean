/- Layer 15: two slices of the same bytes, and of the same parts. -/
import Derived.Test.YtcigceaadkjenaaDoorImgRd
import Derived.Test.YtcigceaadkjenaaDoorNumbers
import Derived.Lib.Hide
namespace Go.Proofs.YtcigceaadkjenaaDoor
open Go.RowKit
set_option linter.unusedVariables false
set_option maxRecDepth 100000

set_option maxHeartbeats 400000 in
theorem same15_none (a a' : Option Addr) (c c' : Nat) (w : World) :
    Calls Tryd.prog 16 #[.slice a 0 c, .slice a' 0 c'] w fun e w' => e = .returned (.bool true) ∧ Q w w' := by
  go_enter Tryd.func16, Tryd.ntmps16
  go_wp2
  go_loopw [5] (fun i wr => i = .int .i64 0 ∧ Q w wr) (fun _ _ => 0)
  case atStart => exact ⟨rfl, Q.refl _⟩
  case round =>
    obtain ⟨rfl, hq⟩ := hrel
    go_wp2
    go_ret
    exact ⟨rfl, hq⟩

/-- SameBytes of the same bytes. -/
theorem sameB_any {v v' : Value} {l : List Int} {w : World} (hn : l.length ≤ maxLen) (h : RdB w v l) (h' : RdB w v' l) :
    Calls Tryd.prog 16 #[v, v'] w fun e w' => e = .returned (.bool true) ∧ Q w w' := by
  obtain ⟨a, c, rfl, _, h⟩ := h
  obtain ⟨a', c', rfl, _, h'⟩ := h'
  rcases h with rfl | ⟨b, o, rfl, hc⟩
  · exact same15_none _ _ _ _ w
  · rcases h' with rfl | ⟨b', o', rfl, hc'⟩
    · exact same15_none _ _ _ _ w
    · exact same_yes (fun i => l.getD i 0) _ _ _ _ _ _ _ w hn hc hc'

theorem RdP.q {w w' : World} {b o i : Nat} {p : Prt} (h : RdP w b o i p) (hq : Q w w') : RdP w' b o i p := h.on (hq.below _)

theorem quiet_of_q {P : Program} {f : FuncId} {args : Array Value} {w : World} {n : Nat} {v : Value} (h : Calls P f args (w.drewN n) fun e w' => e = .returned v ∧ Q (w.drewN n) w') : Calls P f args (w.drewN n) fun e w'' => e = .returned v ∧ ∃ m, w'' = w.drewN m :=
  h.mono (by rintro e w' ⟨he, k, rfl⟩; exact ⟨he, n + k, by simp⟩)

set_option maxHeartbeats 1000000 in
/-- Same, of the same parts. -/
theorem sameP_any {v v' : Value} {ps : List Prt} {w : World} (hn : ps.length ≤ maxLen) (hm : ∀ p ∈ ps, p.2.length ≤ maxLen) (h : RdPs w v ps) (h' : RdPs w v' ps) :
    Calls Tryd.prog 20 #[v, v'] w fun e w' => e = .returned (.bool true) ∧ Q w w' := by
  unfold maxLen at hn
  obtain ⟨a, c, rfl, h⟩ := h
  obtain ⟨a', c', rfl, h'⟩ := h'
  go_enter Tryd.func20, Tryd.ntmps20
  go_wp2
  go_loopw [5] (fun i wr => ∃ k : Nat, k ≤ ps.length ∧ i = .int .i64 (k : Int) ∧ Q w wr) (fun i _ => ps.length - (intOf i).toNat)
  case atStart => exact ⟨0, Nat.zero_le _, rfl, Q.refl _⟩
  case round =>
    obtain ⟨k, hk, rfl, hq⟩ := hrel
    by_cases hlt : k < ps.length
    · rcases h with h | ⟨b, o, rfl, hi⟩
      · subst h; simp at hlt
      · rcases h' with h' | ⟨b', o', rfl, hi'⟩
        · subst h'; simp at hlt
        · obtain ⟨p, hp⟩ : ∃ p, ps[k]? = some p := ⟨_, List.getElem?_eq_getElem hlt⟩
          have hmp := hm p (List.mem_of_getElem? hp)
          obtain ⟨c0, a1, cp, c1, hb⟩ := (hi k p hp).q hq
          obtain ⟨d0, a2, cq, d1, hd⟩ := (hi' k p hp).q hq
          have HSB : Hid (∀ n : Nat, Calls Tryd.prog 16 #[.slice a1 p.2.length cp, .slice a2 p.2.length cq] (wr.drewN n) fun e w' => e = .returned (.bool true) ∧ ∃ m, w' = wr.drewN m) := fun n =>
            quiet_of_q (sameB_any hmp (hb.on ((Q.refl wr).drewN n |>.below _)) (hd.on ((Q.refl wr).drewN n |>.below _)))
          obtain ⟨p1, p2⟩ := p
          have HI := Lib.hid (And.intro hi hi')
          have HM := Lib.hid hm
          clear hi hi' hb hd hm hmp
          go_wp2
          go_quiet ((go_at_call 16; exact HSB.out _))
          go_wp2
          go_roundw
          case rel => exact ⟨k + 1, by omega, by go_num, hq.drewN _⟩
          case measure => simp [intOf]; omega
    · obtain rfl : k = ps.length := by omega
      go_wp2
      go_ret
      exact ⟨rfl, hq⟩
end Go.Proofs.YtcigceaadkjenaaDoor
