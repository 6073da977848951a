/- A range over a function whose iterator writes a box of its own between two rounds (strings.SplitSeq: 's = s[i+1:]'): the contract asks of what the caller says that it does not mind that write; the law for the caller. -/
import Derived.RangeFuncNested
import Derived.RangeFuncLeaves
import Derived.Test.YtcigceaadkjenaaDoorRows
namespace Go.Proofs.YtcigceaadkjenaaDoor
open Go.RowKit
set_option linter.unusedVariables false

/-- Nobody minds what stands in the cell of block C. -/
def Minds {β : Type} (C : Nat) (J : β → World → Prop) : Prop := ∀ s V v, J s V → J s (V.setCell ⟨C, 0, none⟩ v)

/-- An iterator whose own box is block C; G: what is known of what has come. -/
def StopsBox {α : Type} (F : Fence) (n : Nat) (P : Program) (g : Nat) (lb : Array Value) (encs : α → Array Value) (C : Nat) (Kp : World → World → Prop) (G S Sp : List α → Prop) (w : World) : Prop :=
  ∀ (l : Nat) (J Jx : List α → World → Prop) (W : World), Below w.heap.size w W → AbidesFrom W.heap.size J → Minds C J →
    (∀ pre x V, J pre V → G (pre ++ [x]) → YieldAt F (n - 1) P l (encs x) V fun e V' =>
      (e = .returned (.bool true) ∧ J (pre ++ [x]) V' ∧ Kp V V') ∨ (e = .returned (.bool false) ∧ Jx (pre ++ [x]) V')) →
    J [] W →
    CallsIn F n P g (#[.func (.yield l) #[] #[]] ++ lb) W fun e W' => (∃ v, e = .returned v) ∧ ((∃ xs, S xs ∧ J xs W') ∨ (∃ pre, Sp pre ∧ Jx pre W'))

section
variable {F : Fence} {n : Nat} {P : Program}

/-- The two blocks that the statement itself lays, one of them in this state. -/
def Kept (l : Nat) (o : Obj) (W : World) : Prop := W.heap[l + 1]? = some o ∧ W.heap[l]? = some (.deferred (some []))

theorem Kept.lt {l : Nat} {o : Obj} {W : World} (h : Kept l o W) : l + 1 < W.heap.size := (Array.getElem?_eq_some_iff.1 h.1).1
theorem Kept.put {l : Nat} {o : Obj} {W : World} (h : Kept l o W) (o' : Obj) : Kept l o' (W.putObj (l + 1) o') :=
  ⟨World.putObj_heap_same h.lt, (World.putObj_heap_other (by omega)).trans h.2⟩
theorem Kept.from {l : Nat} {o : Obj} {W W' : World} (h : Kept l o W) (ho : o.isCells = false) (k : KeepsFrom l W W') : Kept l o W' :=
  ⟨k.same _ _ (by omega) h.1 ho, k.same _ _ (Nat.le_refl _) h.2 rfl⟩
theorem Kept.grown {l : Nat} {o : Obj} {W W' : World} {row : Option Nat} (h : Kept l o W) (ho : o.isWalk = false) (hg : W.grownBy W' row) (hr : ∀ r, row = some r → ∃ q : Obj, W.heap[r]? = some q ∧ q.isWalk = true) : Kept l o W' :=
  ⟨(grownBy_keeps hg hr h.1 ho).trans h.1, (grownBy_keeps hg hr h.2 rfl).trans h.2⟩

/-- A loop's record in a state, with a jump. -/
def recIn (a : Act) (fn : FuncId) (ps : Array Tmp) (assign body : Code) (d : Nat) (st : LoopState) (pe : Option Code) : Loop :=
  { state := st, pending := pe, fn := fn, tmps := a.tmps, params := ps, assign := assign, body := body, defers := d }

/-- One round's end: what stands in the record then. -/
theorem round_end {a : Act} {fn : FuncId} {ps : Array Tmp} {assign body : Code} {l : Nat} (jump : Option Code) {W : World} (h : Kept l (.loop (recIn a fn ps assign body l .busy none)) W) :
    (Instr.endRound (l + 1) jump).run P W = .ok (.bool jump.isNone) (W.putObj (l + 1) (.loop (recIn a fn ps assign body l (if jump.isNone then .ready else .done) jump))) := by
  rw [run_endRound (P := P) jump h.1]
  rfl

/-- The statement, where the iterator writes its box. -/
theorem wpIn_range_box {α : Type} {g : Operand} {ps : Array Tmp} {assign body : Code} {Q : Exit → Act → World → Prop} {a : Act} {w : World}
    (hro : F.round = none) (h1 : 1 ≤ n) {gf : Nat} {lb : Array Value} (hg : a.eval g = .func (.func gf) #[] lb) (hFg : F.fn gf) (eg : ∀ args w, (callFunc gf args).run P w = .ok (.enter gf args) w)
    {encs : α → Array Value} {C : Nat} {Kp : World → World → Prop} {G S Sp : List α → Prop} (hseq : StopsBox F (n - 1) P gf lb encs C Kp G S Sp w) (hC : C < w.heap.size)
    (hKt : ∀ {X Y Z : World}, Kp X Y → Kp Y Z → Kp X Z) (hKb : ∀ (W : World) (l : Nat) (o o' : Obj), w.heap.size ≤ l → W.heap[l]? = some o → o.isCells = false → o.isWalk = false → Kp W (W.putObj l o')) (hps : ∀ x, (encs x).size = ps.size)
    (I : List α → World → Prop) (Ix : Code → List α → World → Prop) (hI : OwnFrom w.heap.size I) (hIx : ∀ c, OwnFrom w.heap.size (Ix c)) (hIC : Minds C I) (h0 : I [] w) (a₁ : α → Act)
    (hassign : ∀ (l : Nat) (x : α) (W : World) (K : Act → World → Prop), K (a₁ x) W →
      assign.wpIn (F.inRound l) (n - 1 - 1) P (Exit.then K (fun _ _ _ => False)) { tmps := (ps.zip (encs x)).foldl (fun t (p, v) => t.setIfInBounds p v) a.tmps, defers := [] } W)
    (hbody : ∀ (l : Nat) (pre : List α) (x : α) (W : World), w.heap.size ≤ l → (∃ r, W.heap[l]? = some (.loop r)) → I pre W → G (pre ++ [x]) → body.wpIn (F.inRound l) (n - 1 - 1) P (ownPostG w.heap.size Kp I Ix (pre ++ [x]) W) (a₁ x) W)
    (hdone : ∀ (D : Nat) (xs : List α) (W : World), w.heap.size ≤ D → S xs → I xs W → W.heap[D]? = some (.deferred (some [])) → Q .normal { a with defers := { target := .collected D, args := #[] } :: a.defers } W)
    (hstop : ∀ (D : Nat) (c : Code) (pre : List α) (W : World), w.heap.size ≤ D → Sp pre → Ix c pre W → W.heap[D]? = some (.deferred (some [])) → c.wpIn F n P Q { a with defers := { target := .collected D, args := #[] } :: a.defers } W) :
    (Code.rangeFunc g ps assign body).wpIn F n P Q a w := by
  obtain ⟨M, hM⟩ : ∃ M, M = w.heap.size := ⟨_, rfl⟩
  refine wpIn_rangeFunc fun fn hfn => ?_
  rw [hro]
  let R : LoopState → Option Code → Obj := fun st pe => .loop (recIn a fn ps assign body M st pe)
  let W1 : World := (w.alloc (.deferred (some []))).alloc (R .ready none)
  have hk1 : Kept M (R .ready none) W1 := by
    have e1 : (w.alloc (.deferred (some []))).heap.size = M + 1 := by simp [hM]
    refine ⟨?_, ?_⟩
    · have := World.alloc_heap_new (w.alloc (.deferred (some []))) (R .ready none)
      rwa [e1] at this
    · rw [hM]
      exact (Below.heap_alloc _ _ _ (by simp)).trans (World.alloc_heap_new w _)
  have hb1 : Below w.heap.size w W1 := ((Below.refl _ w).alloc (Nat.le_refl _) _).alloc (by simp) _
  refine ⟨M + 1, [{ target := .collected M, args := #[] }], W1, { target := .fn (.func gf) lb, args := #[.func (.yield (M + 1)) #[] #[]] }, W1, gf, #[.func (.yield (M + 1)) #[] #[]] ++ lb, W1, ?_, ?_, ?_, ?_, fun _ => h1, ?_⟩
  · subst hM
    exact run_enterLoop_outer _ _ _ _ _
  · simp only [resolve, hg]
    simp [go_sem]
  · intro f' hf'
    simp [Target.leads] at hf'
    subst hf'
    exact hFg
  · simp [invoke, go_sem, eg]
  have hrow : ∀ {A : World} {row : Option Nat}, (∀ r, row = some r → W1.heap.size ≤ r ∧ ∃ o : Obj, A.heap[r]? = some o ∧ o.isWalk = true) → ∀ r, row = some r → w.heap.size ≤ r ∧ ∃ o : Obj, A.heap[r]? = some o ∧ o.isCells = false := fun hr r e => by
    obtain ⟨b, o, ho, hw⟩ := hr r e
    have := hb1.size
    exact ⟨by omega, o, ho, Obj.not_cells_of_walk hw⟩
  refine (hseq (M + 1) (fun pre W => I pre W ∧ Kept M (R .ready none) W) (fun pre W => ∃ c, Ix c pre W ∧ Kept M (R .done (some c)) W) W1 hb1 ?_ ?_ ?_ ⟨hI.alloc _ (hI.alloc _ h0), hk1⟩).mono ?_
  · exact fun s A B row hs hg' hr => ⟨hI s A B row hs.1 hg' (hrow hr), hs.2.grown rfl hg' fun r e => (hr r e).2⟩
  · refine fun s V v hs => ⟨hIC s V v hs.1, hs.2.from rfl ((KeepsOthers.setCell V _ v).from _)⟩
  · -- a round
    rintro pre x W ⟨hi, hk⟩ hG
    refine ⟨fn, _, assign, body, run_yield (P := P) (args := encs x) hk.1 (hps x), roundIn_of_wpIn hfn (hassign _ x W _ ?_)⟩
    refine ⟨W.putObj (M + 1) (R .busy none), run_beginRound hk.1 rfl, ?_⟩
    have hk2 := hk.put (R .busy none)
    refine wpIn_mono (hbody (M + 1) pre x _ (by omega) ⟨_, hk2.1⟩ (hI.putObj _ hi (by omega) hk.1 rfl) hG) ?_
    have leave : ∀ (jump : Option Code) (V : World), KeepsFrom w.heap.size (W.putObj (M + 1) (R .busy none)) V →
        (Instr.endRound (M + 1) jump).run P V = .ok (.bool jump.isNone) (V.putObj (M + 1) (R (if jump.isNone then .ready else .done) jump)) ∧ Kept M (R .busy none) V := fun jump V hv => by
      have hk3 : Kept M (R .busy none) V := hk2.from rfl (hM ▸ hv)
      exact ⟨round_end jump hk3, hk3⟩
    have away : ∀ (c : Code) (V : World), KeepsFrom w.heap.size (W.putObj (M + 1) (R .busy none)) V → Ix c (pre ++ [x]) V →
        ∃ v W', (Instr.endRound (M + 1) (some c)).run P V = .ok v W' ∧ ((Ending.returned v = .returned (.bool true) ∧ (I (pre ++ [x]) W' ∧ Kept M (R .ready none) W') ∧ Kp W W') ∨ (Ending.returned v = .returned (.bool false) ∧ ∃ c, Ix c (pre ++ [x]) W' ∧ Kept M (R .done (some c)) W')) := fun c V hv hx => by
      obtain ⟨hr, hk3⟩ := leave (some c) V hv
      exact ⟨_, _, hr, .inr ⟨rfl, c, (hIx c).putObj _ hx (by omega) hk3.1 rfl, hk3.put _⟩⟩
    rintro e a3 V hp
    cases e with
    | normal =>
      obtain ⟨hv, hkp, hi3⟩ := hp
      obtain ⟨hr, hk3⟩ := leave none V hv
      exact ⟨_, _, hr, .inl ⟨rfl, ⟨hI.putObj _ hi3 (by omega) hk3.1 rfl, hk3.put _⟩, hKt (hKt (hKb _ _ _ _ (by omega) hk.1 rfl rfl) hkp) (hKb _ _ _ _ (by omega) hk3.1 rfl rfl)⟩⟩
    | ret => exact away .ret V hp.1 hp.2
    | exit id => exact away (.exit id) V hp.1 hp.2
    | goto t => exact away (.goto t) V hp.1 hp.2
    | panic ch => exact hp.elim
    | outgrown => exact hp.elim
  · -- behind the iterator
    rintro e V ⟨⟨v, rfl⟩, ⟨xs, hS, hi, hk⟩ | ⟨pre, hS, c, hi, hk⟩⟩
    · have hr := run_endLoop (P := P) hk.1 (by simp [recIn])
      refine ⟨none, _, hr, ?_⟩
      exact hdone M xs _ (by omega) hS (hI.putObj _ hi (by omega) hk.1 rfl) ((World.putObj_heap_other (by omega)).trans hk.2)
    · have hr := run_endLoop (P := P) hk.1 (by simp [recIn])
      refine ⟨some c, _, hr, ?_⟩
      exact hstop M c pre _ (by omega) hS ((hIx c).putObj _ hi (by omega) hk.1 rfl) ((World.putObj_heap_other (by omega)).trans hk.2)

/-- Within a round of loop l₀, where what a round begins from is known ahead of the world. -/
theorem wpIn_range_in {α : Type} {g : Operand} {ps : Array Tmp} {assign body : Code} {Q : Exit → Act → World → Prop} {a : Act} {w : World}
    {l₀ : Nat} {r₀ : Loop} (hro : F.round = some l₀) (hl₀ : w.heap[l₀]? = some (.loop r₀)) (h1 : 1 ≤ n) {gf : Nat} {lb : Array Value} (hg : a.eval g = .func (.func gf) #[] lb) (hFg : F.fn gf) (eg : ∀ args w, (callFunc gf args).run P w = .ok (.enter gf args) w)
    {encs : α → Array Value} {Kp : World → World → Prop} {S Sp : List α → Prop} {N : Nat} (hseq : SeqStopsK F (n - 1) P gf lb encs Kp S Sp N w)
    (hKt : ∀ {X Y Z : World}, Kp X Y → Kp Y Z → Kp X Z) (hKb : ∀ (W : World) (l : Nat) (o o' : Obj), w.heap.size ≤ l → W.heap[l]? = some o → o.isCells = false → o.isWalk = false → Kp W (W.putObj l o')) (hKr : ∀ W, Kp W W) (hps : ∀ x, (encs x).size = ps.size)
    (I : List α → World → Prop) (Ix : Code → List α → World → Prop) (hI : OwnFrom w.heap.size I) (hIx : ∀ c, OwnFrom w.heap.size (Ix c)) (h0 : I [] w) (a₁ : α → Act)
    (hassign : ∀ (l : Nat) (x : α) (W : World) (K : Act → World → Prop), K (a₁ x) W →
      assign.wpIn (F.inRound l) (n - 1 - 1) P (Exit.then K (fun _ _ _ => False)) { tmps := (ps.zip (encs x)).foldl (fun t (p, v) => t.setIfInBounds p v) a.tmps, defers := [] } W)
    (hbody : ∀ (l : Nat) (pre : List α) (x : α) (W : World), I pre W → pre.length < N → body.wpIn (F.inRound l) (n - 1 - 1) P (ownPostG w.heap.size Kp I Ix (pre ++ [x]) W) (a₁ x) W)
    (hdone : ∀ (xs : List α) (W : World), S xs → I xs W → Q .normal a W)
    (hstop : ∀ (c : Code) (pre : List α) (W : World), Sp pre → Ix c pre W → c.wpIn F n P Q a W) :
    (Code.rangeFunc g ps assign body).wpIn F n P Q a w :=
  wpIn_rangeFunc_ownN hro hl₀ h1 hg hFg eg hseq (fun h k => hKt h k) hKb (Below.refl _ _) hps I Ix hI hIx h0 (fun x a' _ => a' = a₁ x) (fun _ _ _ _ _ _ hs _ _ => hs)
    (fun l pre x W K hi hK => hassign l x W K (hK _ _ (KeepsFrom.refl _ _) (hKr W) hi rfl)) (fun l pre x a' W _ _ hi e hlt => by subst e; exact hbody l pre x W hi hlt) hdone hstop
end
end Go.Proofs.YtcigceaadkjenaaDoor
