/- Layer 15: parts in memory: a slice of parts that the call made; parts that are only read. -/
import Derived.Test.YtcigceaadkjenaaDoorImgStr
import Derived.Test.YtcigceaadkjenaaDoorAppendPlace
import Derived.RangeFuncBox
namespace Go.Proofs.YtcigceaadkjenaaDoor
open Go.RowKit
set_option linter.unusedVariables false

/-- The type of a byte's rows. -/
abbrev tyB : TypeId := 5
def bv (l : List Int) : List Value := l.map (Value.int .u8)
theorem bv_len (l : List Int) : (bv l).length = l.length := by simp [bv]

/-! What a call leaves that writes rows of bytes and rows of T alone -/

structure Kp2 (T : TypeId) (W W' : World) : Prop where
  size : W.heap.size ≤ W'.heap.size
  same : ∀ (k : Nat) (o : Obj), W.heap[k]? = some o → (∀ cs e fz, o = .cells cs e fz → e ≠ tyB ∧ e ≠ T) → W'.heap[k]? = some o
section
variable {T : TypeId} {X Y Z : World}
theorem Kp2.refl (T : TypeId) (W : World) : Kp2 T W W := ⟨Nat.le_refl _, fun _ _ h _ => h⟩
theorem Kp2.trans (h : Kp2 T X Y) (k : Kp2 T Y Z) : Kp2 T X Z := ⟨Nat.le_trans h.size k.size, fun i o hi ho => k.same i o (h.same i o hi ho) ho⟩
theorem Kp2.drew (h : Kp2 T X Y) : Kp2 T X Y.drew := ⟨h.size, h.same⟩
theorem Kp2.alloc (h : Kp2 T X Y) (o : Obj) : Kp2 T X (Y.alloc o) :=
  ⟨by have := h.size; simp; omega, fun k p hk hp => by
    have h1 := h.same k p hk hp
    exact (Below.heap_alloc Y o k (Array.getElem?_eq_some_iff.1 h1).1).trans h1⟩
/-- One block is turned, a row of bytes or of T. -/
theorem Kp2.grown {row : Option Nat} (h : Kp2 T X Y) (hg : Y.grownBy Z row) (hr : ∀ g, row = some g → ∃ cs e fz, Y.heap[g]? = some (.cells cs e fz) ∧ (e = tyB ∨ e = T)) : Kp2 T X Z :=
  ⟨Nat.le_trans h.size hg.size, fun k p hk hp => by
    have h1 := h.same k p hk hp
    refine (hg.block k (Array.getElem?_eq_some_iff.1 h1).1 fun e => ?_).trans h1
    obtain ⟨cs, t, fz, hc, ht⟩ := hr k e.symm
    rw [h1] at hc
    cases hc
    have := hp _ _ _ rfl
    rcases ht with ht | ht
    · exact this.1 ht
    · exact this.2 ht⟩
theorem Kp2.of_below (h : Below X.heap.size X Y) : Kp2 T X Y := ⟨h.size, fun k o hk _ => (h.block k (Array.getElem?_eq_some_iff.1 hk).1).trans hk⟩
theorem Kp2.others (h : Kp2 T X Y) : KeepsOthers X Y := ⟨h.size, fun k o hk ho => h.same k o hk fun cs e fz q => by subst q; cases ho⟩
theorem Kp2.box (h : Kp2 T X Y) {B : Nat} {t : TypeId} {v : Value} (hb : Boxed X B t v) (h1 : t ≠ tyB) (h2 : t ≠ T) : Boxed Y B t v :=
  h.same B _ hb fun cs e fz q => by cases q; exact ⟨h1, h2⟩
theorem Kp2.cells (h : Kp2 T X Y) {B : Nat} {cs : Array Value} {t : TypeId} {fz : Nat × Nat} (hb : X.heap[B]? = some (.cells cs t fz)) (h1 : t ≠ tyB) (h2 : t ≠ T) : Y.heap[B]? = some (.cells cs t fz) :=
  h.same B _ hb fun cs e fz q => by cases q; exact ⟨h1, h2⟩
end

/-- The block of an owned row is one of its type. -/
theorem own_kind {W : World} {base size n : Nat} {e : TypeId} {v : Value} {xs : List Value} (h : W.ownsRow base e size v n xs) {g : Nat} (hg : v.ownBlock = some g) : ∃ cs, W.heap[g]? = some (.cells cs e (0, 0)) := by
  rcases h.2 with ⟨rfl, _⟩ | ⟨g', cap, cur, rfl, _, hh, _⟩
  · simp [Value.ownBlock] at hg
  · simp [Value.ownBlock] at hg
    subst hg
    exact ⟨_, hh⟩
theorem own_other {W : World} {b1 b2 s1 s2 n1 n2 : Nat} {e1 e2 : TypeId} {v1 v2 : Value} {x1 x2 : List Value} (h1 : W.ownsRow b1 e1 s1 v1 n1 x1) (h2 : W.ownsRow b2 e2 s2 v2 n2 x2) (hne : e1 ≠ e2) : v1.ownBlock = none ∨ v1.ownBlock ≠ v2.ownBlock := by
  cases e : v1.ownBlock with
  | none => exact .inl rfl
  | some g =>
    refine .inr fun q => ?_
    obtain ⟨c1, k1⟩ := own_kind h1 e
    obtain ⟨c2, k2⟩ := own_kind h2 q.symm
    rw [k1] at k2
    cases k2
    exact hne rfl

/-! Parts -/

/-- The cells of parts, whose bytes these slices hold. -/
def cellsP : List Prt → List Value → List Value
  | p :: ps, v :: vs => .int .u32 p.1 :: v :: cellsP ps vs
  | _, _ => []
theorem cellsP_len : ∀ (ps : List Prt) (vs : List Value), vs.length = ps.length → (cellsP ps vs).length = ps.length * 2
  | [], [], _ => rfl
  | p :: ps, v :: vs, h => by
    have := cellsP_len ps vs (by simpa using h)
    simp only [cellsP, List.length_cons, this]
    omega
  | [], _ :: _, h => by simp at h
  | _ :: _, [], h => by simp at h
theorem cellsP_app : ∀ (ps : List Prt) (vs : List Value) (qs : List Prt) (us : List Value), vs.length = ps.length → cellsP (ps ++ qs) (vs ++ us) = cellsP ps vs ++ cellsP qs us
  | [], [], qs, us, _ => rfl
  | p :: ps, v :: vs, qs, us, h => by
    have := cellsP_app ps vs qs us (by simpa using h)
    simp only [List.cons_append, cellsP, this]
  | [], _ :: _, _, _, h => by simp at h
  | _ :: _, [], _, _, h => by simp at h
theorem cellsP_at : ∀ (ps : List Prt) (vs : List Value) (i : Nat) (p : Prt) (v : Value), ps[i]? = some p → vs[i]? = some v → (cellsP ps vs)[i * 2]? = some (.int .u32 p.1) ∧ (cellsP ps vs)[i * 2 + 1]? = some v
  | [], _, i, p, v, h, _ => by simp at h
  | _ :: _, [], i, p, v, _, h => by simp at h
  | q :: ps, u :: vs, 0, p, v, h, h' => by simp at h h'; subst h; subst h'; simp [cellsP]
  | q :: ps, u :: vs, i + 1, p, v, h, h' => by
    have := cellsP_at ps vs i p v (by simpa using h) (by simpa using h')
    rw [show (i + 1) * 2 = i * 2 + 1 + 1 from by omega]
    simpa [cellsP] using this

/-- Slices that share no block. -/
def Apart (vs : List Value) : Prop := ∀ (i j : Nat) (a b : Value) (g : Nat), i < j → vs[i]? = some a → vs[j]? = some b → b.ownBlock = some g → a.ownBlock ≠ some g
def RowsP (W : World) (base : Nat) (ps : List Prt) (vs : List Value) : Prop := vs.length = ps.length ∧ ∀ (i : Nat) (p : Prt) (b : Value), ps[i]? = some p → vs[i]? = some b → W.ownsRow base tyB 1 b p.2.length (bv p.2)
/-- A slice of parts that the call made, of the type T. -/
def IsPs (T : TypeId) (W : World) (base : Nat) (v : Value) (ps : List Prt) : Prop := ∃ vs, W.ownsRow base T 2 v ps.length (cellsP ps vs) ∧ RowsP W base ps vs ∧ Apart vs

theorem IsPs.nil (T : TypeId) (W : World) (base : Nat) : IsPs T W base (.slice none 0 0) [] :=
  ⟨[], World.ownsRow_nil _ _ _ _, ⟨rfl, fun i p b h => by simp at h⟩, fun i j a b g _ h => by simp at h⟩

theorem RowsP.kept {W W' : World} {base : Nat} {ps : List Prt} {vs : List Value} (h : RowsP W base ps vs) {row : Option Nat} (hg : W.grownBy W' row) (hne : ∀ b ∈ vs, b.ownBlock = none ∨ b.ownBlock ≠ row) : RowsP W' base ps vs :=
  ⟨h.1, fun i p b hp hb => (h.2 i p b hp hb).kept hg (hne b (List.mem_of_getElem? hb))⟩
theorem IsPs.kept {T : TypeId} {W W' : World} {base : Nat} {v : Value} {ps : List Prt} (h : IsPs T W base v ps) (hg : W.grownBy W' none) : IsPs T W' base v ps := by
  obtain ⟨vs, h1, h2, h3⟩ := h
  refine ⟨vs, h1.kept hg ?_, h2.kept hg fun b _ => ?_, h3⟩
  · cases v.ownBlock <;> simp
  · cases b.ownBlock <;> simp
theorem IsPs.alloc {T : TypeId} {W : World} {base : Nat} {v : Value} {ps : List Prt} (h : IsPs T W base v ps) (o : Obj) : IsPs T (W.alloc o) base v ps := h.kept (World.grownBy_alloc W o none)
theorem IsPs.drew {T : TypeId} {W : World} {base : Nat} {v : Value} {ps : List Prt} (h : IsPs T W base v ps) : IsPs T W.drew base v ps := h.kept ⟨rfl, rfl, rfl, Nat.le_refl _, fun _ _ _ => rfl⟩
theorem IsPs.on {T : TypeId} {W W' : World} {base : Nat} {v : Value} {ps : List Prt} (h : IsPs T W base v ps) (hb : Below W.heap.size W W') : IsPs T W' base v ps :=
  h.kept ⟨hb.os, hb.tape, hb.output, hb.size, fun k hk _ => hb.block k hk⟩
theorem IsPs.q {T : TypeId} {W W' : World} {base : Nat} {v : Value} {ps : List Prt} (h : IsPs T W base v ps) (hq : Q W W') : IsPs T W' base v ps := h.on (hq.below _)
/-- A block that holds neither bytes nor parts is turned. -/
theorem IsPs.turn {T : TypeId} {W W' : World} {base : Nat} {v : Value} {ps : List Prt} {k : Nat} (h : IsPs T W base v ps) (hg : W.grownBy W' (some k)) (hk : ∀ cs, W.heap[k]? ≠ some (.cells cs tyB (0, 0)) ∧ W.heap[k]? ≠ some (.cells cs T (0, 0))) : IsPs T W' base v ps := by
  obtain ⟨vs, h1, h2, h3⟩ := h
  refine ⟨vs, h1.kept hg ?_, ⟨h2.1, fun i p b hp hb => (h2.2 i p b hp hb).kept hg ?_⟩, h3⟩
  · refine .inr fun e => ?_
    obtain ⟨cs, hc⟩ := own_kind h1 e
    exact (hk cs).2 hc
  · refine .inr fun e => ?_
    obtain ⟨cs, hc⟩ := own_kind (h2.2 i p b hp hb) e
    exact (hk cs).1 hc

/-- One part more, without bytes. -/
theorem IsPs.push {T : TypeId} (hT : T ≠ tyB) {W w1 : World} {base : Nat} {v v' : Value} {ps : List Prt} {vs : List Value} {tmp : Obj} {x : Int}
    (h1 : W.ownsRow base T 2 v ps.length (cellsP ps vs)) (h2 : RowsP W base ps vs) (h3 : Apart vs)
    (hown : w1.ownsRow base T 2 v' (ps.length + 1) (cellsP ps vs ++ [.int .u32 x, .slice none 0 0])) (hg : (W.alloc tmp).grownBy w1 v.ownBlock) : IsPs T w1 base v' (ps ++ [(x, [])]) := by
  refine ⟨vs ++ [.slice none 0 0], ?_, ⟨by simp [h2.1], fun i p b hp hb => ?_⟩, fun i j a b g hij ha hb hbg => ?_⟩
  · rw [cellsP_app _ _ _ _ h2.1, List.length_append]; exact hown
  · by_cases hi : i < ps.length
    · rw [List.getElem?_append_left hi] at hp
      rw [List.getElem?_append_left (by rw [h2.1]; exact hi)] at hb
      have hr := (h2.2 i p b hp hb).alloc tmp
      exact hr.kept hg (own_other hr (h1.alloc tmp) (fun e => hT e.symm))
    · rw [List.getElem?_append_right (by omega)] at hp
      rw [List.getElem?_append_right (by rw [h2.1]; omega)] at hb
      rw [h2.1] at hb
      cases hk : i - ps.length with
      | zero => rw [hk] at hp hb; simp at hp hb; subst hp; subst hb; exact World.ownsRow_nil _ _ _ _
      | succ n => rw [hk] at hp; simp at hp
  · have hj : j < vs.length := by
      rcases Nat.lt_or_ge j vs.length with c | c
      · exact c
      · rw [List.getElem?_append_right c] at hb
        cases hk : j - vs.length with
        | zero => rw [hk] at hb; simp at hb; subst hb; simp [Value.ownBlock] at hbg
        | succ n => rw [hk] at hb; simp at hb
    rw [List.getElem?_append_left hj] at hb
    rw [List.getElem?_append_left (by omega)] at ha
    exact h3 i j a b g hij ha hb hbg

/-- The part that was begun last, and its bytes. -/
theorem IsPs.last {T : TypeId} {W : World} {base : Nat} {v : Value} {ps : List Prt} {p : Prt} (h : IsPs T W base v (ps ++ [p])) :
    ∃ g cap vs b, v = .slice (some ⟨g, 0, none⟩) (ps.length + 1) cap ∧ base ≤ g ∧ W.ownsRow base T 2 v (ps.length + 1) (cellsP ps vs ++ [.int .u32 p.1, b]) ∧ RowsP W base ps vs ∧ W.ownsRow base tyB 1 b p.2.length (bv p.2) ∧ Apart (vs ++ [b]) ∧
      W.cell? ⟨g, ps.length * 2, none⟩ = some (.int .u32 p.1) ∧ W.cell? ⟨g, ps.length * 2 + 1, none⟩ = some b ∧ W.frozen? ⟨g, ps.length * 2 + 1, none⟩ = false ∧ ps.length + 1 ≤ cap := by
  obtain ⟨vs, h1, h2, h3⟩ := h
  have hl : vs.length = ps.length + 1 := by rw [h2.1]; simp
  obtain ⟨us, b, rfl⟩ : ∃ us b, vs = us ++ [b] := by
    rcases List.eq_nil_or_concat vs with rfl | ⟨us, b, e⟩
    · simp at hl
    · exact ⟨us, b, by rw [e, List.concat_eq_append]⟩
  have hu : us.length = ps.length := by simpa using hl
  rw [cellsP_app _ _ _ _ hu, List.length_append] at h1
  obtain ⟨g, cap, rfl⟩ := ownsRow_succ (k := ps.length) h1
  have hg := (h1.lt g rfl).1
  have hcap : ps.length + 1 ≤ cap := by
    rcases h1.2 with ⟨e, _⟩ | ⟨g', cap', cur, e, _, _, hc, _⟩
    · cases e
    · cases e; exact hc
  have hcl := cellsP_len ps us hu
  have h1' : W.ownsRow base T 2 (.slice (some ⟨g, 0, none⟩) (ps.length + 1) cap) (ps.length + 1) (cellsP ps us ++ [.int .u32 p.1, b]) := h1
  refine ⟨g, cap, us, b, rfl, hg, h1', ⟨hu, fun i q c hq hc => ?_⟩, ?_, h3, ?_, ?_, h1'.frozenAt _, hcap⟩
  · have hi : i < ps.length := (List.getElem?_eq_some_iff.1 hq).1
    exact h2.2 i q c (by rw [List.getElem?_append_left hi]; exact hq) (by rw [List.getElem?_append_left (by omega)]; exact hc)
  · exact h2.2 ps.length p b (by simp) (by rw [← hu]; simp)
  · rw [h1'.cellAt _ (by omega), List.getElem?_append_right (by omega), hcl]; simp
  · rw [h1'.cellAt _ (by omega), List.getElem?_append_right (by omega), hcl]; simp

/-- One byte more. -/
theorem IsPs.byte {T : TypeId} (hT : T ≠ tyB) {W w1 : World} {base g cap : Nat} {b b' : Value} {ps : List Prt} {p : Prt} {vs : List Value} {l' : List Int}
    (h1 : W.ownsRow base T 2 (.slice (some ⟨g, 0, none⟩) (ps.length + 1) cap) (ps.length + 1) (cellsP ps vs ++ [.int .u32 p.1, b])) (h2 : RowsP W base ps vs) (h0 : W.ownsRow base tyB 1 b p.2.length (bv p.2)) (h3 : Apart (vs ++ [b]))
    (hown : w1.ownsRow base tyB 1 b' l'.length (bv l')) (hg : W.grownBy w1 b.ownBlock) (hp : ∀ k, b'.ownBlock = some k → b.ownBlock = some k ∨ W.heap.size ≤ k) :
    IsPs T (w1.setCell ⟨g, ps.length * 2 + 1, none⟩ b') base (.slice (some ⟨g, 0, none⟩) (ps.length + 1) cap) (ps ++ [(p.1, l')]) ∧ w1.grownBy (w1.setCell ⟨g, ps.length * 2 + 1, none⟩ b') (some g) ∧ w1.frozen? ⟨g, ps.length * 2 + 1, none⟩ = false ∧ w1.cell? ⟨g, ps.length * 2 + 1, none⟩ = some b ∧ ∃ cs, w1.heap[g]? = some (.cells cs T (0, 0)) := by
  have hcl := cellsP_len ps vs h2.1
  have k1 : w1.ownsRow base T 2 (.slice (some ⟨g, 0, none⟩) (ps.length + 1) cap) (ps.length + 1) (cellsP ps vs ++ [.int .u32 p.1, b]) := h1.kept hg (own_other h1 h0 hT)
  obtain ⟨s1, s2⟩ := k1.stored (ps.length * 2 + 1) b'
  have es : (cellsP ps vs ++ [.int .u32 p.1, b]).set (ps.length * 2 + 1) b' = cellsP ps vs ++ [.int .u32 p.1, b'] := by
    rw [List.set_append_right _ _ (by omega), hcl]
    simp
  rw [es] at s1
  have hgT : ∃ cs, w1.heap[g]? = some (.cells cs T (0, 0)) := own_kind k1 rfl
  have apart : ∀ {c : Value} {n : Nat} {xs : List Value}, w1.ownsRow base tyB 1 c n xs → (w1.setCell ⟨g, ps.length * 2 + 1, none⟩ b').ownsRow base tyB 1 c n xs := fun {c n xs} hc => hc.kept s2 (own_other hc k1 (fun e => hT e.symm))
  have hc1 : w1.cell? ⟨g, ps.length * 2 + 1, none⟩ = some b := by
    rw [k1.cellAt _ (by omega), List.getElem?_append_right (by omega), hcl]; simp
  refine ⟨⟨vs ++ [b'], ?_, ⟨by simp [h2.1], fun i q c hq hc => ?_⟩, fun i j a c k hij ha hc hck => ?_⟩, s2, k1.frozenAt _, hc1, hgT⟩
  · rw [cellsP_app _ _ _ _ h2.1, List.length_append]; exact s1
  · by_cases hi : i < ps.length
    · rw [List.getElem?_append_left hi] at hq
      rw [List.getElem?_append_left (by rw [h2.1]; exact hi)] at hc
      refine apart ((h2.2 i q c hq hc).kept hg ?_)
      cases e : c.ownBlock with
      | none => exact .inl rfl
      | some k =>
        refine .inr fun e2 => ?_
        exact h3 i vs.length c b k (by rw [h2.1]; exact hi) (by rw [List.getElem?_append_left (by rw [h2.1]; exact hi)]; exact hc) (by simp) e2.symm e
    · rw [List.getElem?_append_right (by omega)] at hq
      rw [List.getElem?_append_right (by rw [h2.1]; omega)] at hc
      rw [h2.1] at hc
      cases hk : i - ps.length with
      | zero => rw [hk] at hq hc; simp at hq hc; subst hq; subst hc; exact apart hown
      | succ n => rw [hk] at hq; simp at hq
  · have hi : i < vs.length := by
      rcases Nat.lt_or_ge i vs.length with c' | c'
      · exact c'
      · have := (List.getElem?_eq_some_iff.1 hc).1
        simp at this
        omega
    rw [List.getElem?_append_left hi] at ha
    by_cases hj : j < vs.length
    · rw [List.getElem?_append_left hj] at hc
      exact h3 i j a c k hij (by rw [List.getElem?_append_left hi]; exact ha) (by rw [List.getElem?_append_left hj]; exact hc) hck
    · rw [List.getElem?_append_right (by omega)] at hc
      cases hz : j - vs.length with
      | succ n => rw [hz] at hc; simp at hc
      | zero =>
        rw [hz] at hc
        simp at hc
        subst hc
        rcases hp k hck with e | e
        · exact h3 i vs.length a b k hi (by rw [List.getElem?_append_left hi]; exact ha) (by simp) e
        · intro e2
          have hpi : ∃ q, ps[i]? = some q := ⟨_, List.getElem?_eq_getElem (by rw [← h2.1]; exact hi)⟩
          obtain ⟨q, hq⟩ := hpi
          have := ((h2.2 i q a hq ha).lt k e2).2
          omega
end Go.Proofs.YtcigceaadkjenaaDoor
