/- Layer 15, the document's side: a byte more of the part that was begun last: what the drawn region needs. -/
import Derived.Test.YtcigceaadkjenaaDoorImgOf
import Derived.Test.YtcigceaadkjenaaDoorImgTakeB
import Derived.Test.YtcigceaadkjenaaDoorPhase
import Derived.Test.YtcigceaadkjenaaDoorEach
namespace Go.Proofs.YtcigceaadkjenaaDoor
open Go.RowKit
set_option linter.unusedVariables false
set_option maxRecDepth 100000

theorem app0 (B : Nat) (a : Option Addr) (c : Nat) (w : World) : (Builtin.append_ #[30, 30] 30 #[.slice (some ⟨B, 0, none⟩) 0 0, .slice a 0 c]).run Tryd.prog w = .ok (.slice (some ⟨B, 0, none⟩) 0 0) w := by
  cases a with
  | none => kernel_rfl
  | some a => kernel_rfl

theorem hbs0 : ∀ w : World, (Instr.buildSlice 30 0 #[]).run Tryd.prog w = .ok (.slice (some ⟨w.heap.size, 0, none⟩) 0 0) (w.alloc (.cells #[] 5)) := fun _ => by kernel_rfl

theorem own_on {w w' : World} {base : Nat} {e : TypeId} {size : Nat} {v : Value} {n : Nat} {xs : List Value} (h : w.ownsRow base e size v n xs) (hb : Below w.heap.size w w') : w'.ownsRow base e size v n xs :=
  h.kept (row := none) ⟨hb.os, hb.tape, hb.output, hb.size, fun k hk _ => hb.block k hk⟩ (by cases v.ownBlock <;> simp)

/-- append onto a row just made, of no room: whatever is appended. -/
theorem app_fresh (w : World) (base B : Nat) (b : Value) (l : List Int) (hown : w.ownsRow base tyB 1 (.slice (some ⟨B, 0, none⟩) 0 0) 0 []) (hsrc : RdB w b l) (hl : l.length ≤ 1000000) (hbase : base ≤ w.heap.size) :
    ∃ u w2, (Builtin.append_ #[30, 30] 30 #[.slice (some ⟨B, 0, none⟩) 0 0, b]).run Tryd.prog w = .ok u w2 ∧ Below w.heap.size w w2 ∧ w2.ownsRow base tyB 1 u l.length (bv l) ∧ ∃ a n c, u = .slice a n c := by
  obtain ⟨i0, hi, hz0, hz1, hz2⟩ := info_parts info_byte
  obtain ⟨a, c, rfl, hc, h⟩ := hsrc
  by_cases h0 : l = []
  · subst h0
    exact ⟨_, w, app0 B a c w, Below.refl _ _, hown, _, _, _, rfl⟩
  · rcases h with h | ⟨b, o, rfl, hcell⟩
    · exact absurd h h0
    · have hpos : 0 < l.length := by
        rcases l with _ | ⟨x, t⟩
        · exact absurd rfl h0
        · simp
      have hnews : ∀ (j : Nat) (u : Value), (bv l)[j]? = some u → w.cell? ((⟨b, o, none⟩ : Addr).add j) = some u := fun j u hj => by
        have hlt : j < l.length := by have := (List.getElem?_eq_some_iff.1 hj).1; simpa [bv] using this
        rw [Addr.add_lit, hcell j hlt]
        simp [bv, hlt] at hj
        simp [List.getD, hlt, hj]
      obtain ⟨v', w', hr, h2, h3, _⟩ := run_append_own (P := Tryd.prog) w base 30 30 5 i0 (.int .u8 0) 1 1 Tryd.underlying30 hi hz0 hz1 hz2 rfl (by decide) _ 0 [] hown ⟨b, o, none⟩ l.length c (bv l) (by simp [bv]) hnews (by intro u hu; simp [bv] at hu; obtain ⟨x, _, rfl⟩ := hu; rfl) (by unfold maxLen; omega) (by omega) hbase
      have hgrow := run_append_grow (P := Tryd.prog) w 30 30 5 i0 (.int .u8 0) Tryd.underlying30 hi hz0 ⟨B, 0, none⟩ 0 0 [] (by simp) (by simp) ⟨b, o, none⟩ l.length c (bv l) (by rw [hz1]; simp [bv]) hnews (by omega) (by omega) (by rw [hz2]; exact growslice_fits (by omega) (by omega))
      rw [Nat.zero_add, List.nil_append] at h2
      rw [hr] at hgrow
      cases hgrow
      exact ⟨_, _, hr, ((Below.refl w.heap.size w).drew).alloc (Nat.le_refl _) _, h2, _, _, _, rfl⟩

/-- Where the last part's cells lie: what a region keeps of them till it stores. -/
structure PutS (g o : Nat) (p1 : Int) (W0 w' : World) : Prop where
  bar : Bar g W0 w'
  cell : w'.cell? ⟨g, o, none⟩ = some (.int .u32 p1)
theorem PutS.on {g o : Nat} {p1 : Int} {W0 w1 w2 : World} (h : PutS g o p1 W0 w1) (hb : Below w1.heap.size w1 w2) : PutS g o p1 W0 w2 :=
  ⟨h.bar.trans (Bar.of g hb), by rw [hb.cell (World.block_lt_of_cell? w1 _ h.cell)]; exact h.cell⟩
theorem PutS.start {g o : Nat} {p1 : Int} {W0 : World} (h : W0.cell? ⟨g, o, none⟩ = some (.int .u32 p1)) : PutS g o p1 W0 W0.drew := ⟨(Bar.refl g W0).drew, h⟩

/-- What the region's operations leave. -/
def putE (B0 : Nat) (b : Value) (l : List Int) (y : Int) : Nat → Value → World → Prop
  | 7, u, w => ∃ B, u = .slice (some ⟨B, 0, none⟩) 0 0 ∧ w.ownsRow B0 tyB 1 u 0 []
  | 12, u, w => u = b
  | 13, u, w => (∃ a n c, u = .slice a n c) ∧ w.ownsRow B0 tyB 1 u l.length (bv l)
  | 16, u, w => ∃ B, u = .slice (some ⟨B, 0, none⟩) 1 1 ∧ w.cell? ⟨B, 0, none⟩ = some (.int .u8 y)
  | _, _, _ => True
theorem putE_on {B0 : Nat} {b : Value} {l : List Int} {y : Int} {k : Nat} {u : Value} {w w' : World} (hb : Below w.heap.size w w') (h : putE B0 b l y k u w) : putE B0 b l y k u w' := by
  unfold putE at *
  split at h
  · obtain ⟨B, e, h⟩ := h
    exact ⟨B, e, own_on h hb⟩
  · exact h
  · exact ⟨h.1, own_on h.2 hb⟩
  · obtain ⟨B, e, h⟩ := h
    exact ⟨B, e, by rw [hb.cell (World.block_lt_of_cell? w _ h)]; exact h⟩
  · trivial

/-- A cell is written with what it holds. -/
theorem setCell_id {w : World} {B o : Nat} {v : Value} (h : w.cell? ⟨B, o, none⟩ = some v) : w.setCell ⟨B, o, none⟩ v = w := by
  have hh : (w.setCell ⟨B, o, none⟩ v).heap = w.heap := by
    apply Array.ext_getElem?
    intro k
    by_cases e : k = B
    · subst e
      simp only [World.cell?] at h
      simp only [World.setCell, Array.getElem?_modify]
      cases hk : w.heap[k]? with
      | none => rw [hk] at h; simp at h
      | some q =>
        rw [hk] at h
        cases q with
        | cells cs t f =>
          simp at h ⊢
          apply Array.ext_getElem?
          intro j
          by_cases e2 : j = o
          · subst e2
            obtain ⟨hlt, hv⟩ := Array.getElem?_eq_some_iff.1 h
            simp [hlt, hv]
          · rw [Array.getElem?_setIfInBounds_ne (fun q => e2 q.symm)]
        | _ => simp
    · exact Below.heap_setCell w _ v k e
  have : w.setCell ⟨B, o, none⟩ v = { w with heap := (w.setCell ⟨B, o, none⟩ v).heap } := rfl
  rw [this, hh]
end Go.Proofs.YtcigceaadkjenaaDoor
