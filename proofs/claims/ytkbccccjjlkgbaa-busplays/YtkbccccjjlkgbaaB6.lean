/- My texts Each, BusSame, ConOpen, BusOpen, BusPlayC, bound into one. -/
import Derived.Test.YtkbccccjjlkgbaaRows
import Derived.Test.YtkbccccjjlkgbaaB5
import Derived.Below
import Derived.Test.YtkbccccjjlkgbaaB4
import Derived.Test.YtkbccccjjlkgbaaB3
import Derived.Test.YtkbccccjjlkgbaaB1
import Derived.Test.YtkbccccjjlkgbaaB2
/- A region that draws its order: operations that each make memory of their own, whatever order they come in, by one contract each. -/
namespace Go.Proofs.Ytkbccccjjlkgbaa
open Go Go.RowKit
set_option linter.unusedVariables false
set_option linter.unusedSimpArgs false

/-- Where an operation of the region leaves its value. -/
def slotAt (ops : Array Oper) (k : Nat) : Option Tmp := (ops[k]?).bind (·.dst)
/-- The values of those operations of M that have come up. -/
def putSel (ops : Array Oper) (L : Nat → Bool) (v : Nat → Value) : List Nat → Act → Act
  | [], a => a
  | k :: M, a => putSel ops L v M (if L k then a.put (slotAt ops k) (v k) else a)
/-- An operation leaves a value, and K holds of it and of the world behind. -/
def Does (P : Program) (o : Oper) (ev : Operand → Value) (w : World) (K : Value → World → Prop) : Prop :=
  match (execOp ev o).run P w with
  | .ok (.value u) w' => K u w'
  | .ok (.enter f args) w' => Calls P f args w' fun e w'' => ∃ u, e = .returned u ∧ K u w''
  | _ => False

theorem does_of {P : Program} {o : Oper} {ev : Operand → Value} {w : World} {K : Value → World → Prop} {u : Value} {w' : World} (h : (execOp ev o).run P w = .ok (.value u) w') (k : K u w') : Does P o ev w K := by
  unfold Does; rw [h]; exact k
theorem does_call {P : Program} {o : Oper} {ev : Operand → Value} {w w0 : World} {K : Value → World → Prop} {f : FuncId} {args : Array Value} (h : (execOp ev o).run P w = .ok (.enter f args) w0) (k : Calls P f args w0 fun e w'' => ∃ u, e = .returned u ∧ K u w'') : Does P o ev w K := by
  unfold Does; rw [h]; exact k

theorem Does.wp {P : Program} {o : Oper} {a : Act} {w : World} {K : Value → World → Prop} {next : Act → World → Prop} {Q : Exit → Act → World → Prop} (h : Does P o a.eval w K) (hn : ∀ u w', K u w' → next (a.put o.dst u) w') : o.wp P a w next Q := by
  unfold Does at h
  unfold Oper.wp
  generalize (execOp a.eval o).run P w = r at *
  cases r with
  | halt x w' => cases x <;> exact absurd h (by simp)
  | ok n w' =>
    cases n <;> simp only [Oper.upon] at h ⊢
    case value u => exact hn _ _ h
    case enter f args =>
      refine Calls.mono h fun e w'' he => ?_
      obtain ⟨u, rfl, hk⟩ := he
      exact hn _ _ hk

theorem putSel_same {ops : Array Oper} {L L' : Nat → Bool} {v v' : Nat → Value} : ∀ {M : List Nat} {a : Act}, (∀ k, k ∈ M → L k = L' k ∧ (L k = true → v k = v' k)) → putSel ops L v M a = putSel ops L' v' M a
  | [], _, _ => rfl
  | k :: M, a, h => by
    have hk := h k (by simp)
    have ih : ∀ a, putSel ops L v M a = putSel ops L' v' M a := fun a => putSel_same (fun j hj => h j (by simp [hj]))
    unfold putSel
    rw [ih, ← hk.1]
    by_cases c : L k = true
    · rw [if_pos c, if_pos c, hk.2 c]
    · rw [if_neg c, if_neg c]

theorem putSel_put {ops : Array Oper} {L : Nat → Bool} {v : Nat → Value} {d : Option Tmp} {u : Value} : ∀ {M : List Nat} {a : Act}, (∀ k, k ∈ M → ∀ t, slotAt ops k = some t → d ≠ some t) → (putSel ops L v M a).put d u = putSel ops L v M (a.put d u)
  | [], _, _ => rfl
  | k :: M, a, h => by
    have ih := fun a => putSel_put (ops := ops) (L := L) (v := v) (d := d) (u := u) (M := M) (a := a) (fun j hj => h j (by simp [hj]))
    unfold putSel
    rw [ih]
    by_cases c : L k = true
    · rw [if_pos c, if_pos c, Act.put_comm a (v k) u (fun t ht => h k (by simp) t ht)]
    · rw [if_neg c, if_neg c]

def updB (L : Nat → Bool) (i : Nat) : Nat → Bool := fun k => k == i || L k
def updV (v : Nat → Value) (i : Nat) (u : Value) : Nat → Value := fun k => if k = i then u else v k

theorem putSel_upd {ops : Array Oper} {L : Nat → Bool} {v : Nat → Value} {i : Nat} {u : Value} (hL : L i = false) : ∀ {M : List Nat} {a : Act}, M.Nodup → (∀ j, j ∈ M → ∀ k, k ∈ M → j ≠ k → ∀ t, slotAt ops j = some t → slotAt ops k ≠ some t) → i ∈ M →
    (putSel ops L v M a).put (slotAt ops i) u = putSel ops (updB L i) (updV v i u) M a
  | [], _, _, _, hi => absurd hi (by simp)
  | k :: M, a, hn, hd, hi => by
    have hn' := List.nodup_cons.1 hn
    by_cases c : k = i
    · subst c
      unfold putSel
      rw [if_neg (by simp [hL]), if_pos (by simp [updB]), putSel_put (fun j hj t ht => hd j (by simp [hj]) k (by simp) (fun e => hn'.1 (e ▸ hj)) t ht)]
      rw [show updV v k u k = u from by simp [updV]]
      exact putSel_same fun j hj => by
        have hne : j ≠ k := fun e => hn'.1 (e ▸ hj)
        exact ⟨by simp [updB, hne], fun _ => by simp [updV, hne]⟩
    · have hi' : i ∈ M := by
        rcases List.mem_cons.1 hi with e | e
        · exact absurd e.symm c
        · exact e
      unfold putSel
      rw [putSel_upd hL hn'.2 (fun j hj k hk => hd j (by simp [hj]) k (by simp [hk])) hi']
      congr 1
      by_cases q : L k = true
      · rw [if_pos q, if_pos (by simp [updB, q]), show updV v i u k = v k from by simp [updV, c]]
      · rw [if_neg q, if_neg (by simp [updB, q, c])]

theorem put_size (a : Act) (d : Option Tmp) (u : Value) : (a.put d u).tmps.size = a.tmps.size := by
  cases d <;> simp [Act.put]

/-- A temporary that no operation of M fills. -/
theorem putSel_old {ops : Array Oper} {L : Nat → Bool} {v : Nat → Value} {t : Tmp} : ∀ {M : List Nat} {a : Act}, (∀ k, k ∈ M → slotAt ops k ≠ some t) → (putSel ops L v M a).eval (.tmp t) = a.eval (.tmp t)
  | [], _, _ => rfl
  | k :: M, a, h => by
    unfold putSel
    rw [putSel_old (fun j hj => h j (by simp [hj]))]
    by_cases c : L k = true
    · rw [if_pos c]
      exact Act.eval_put fun d hd e => by
        injection e with e; subst e; exact h k (by simp) hd
    · rw [if_neg c]

/-- A temporary that an operation of M that has come up fills. -/
theorem putSel_new {ops : Array Oper} {L : Nat → Bool} {v : Nat → Value} {t : Tmp} {i : Nat} (hL : L i = true) (ht : slotAt ops i = some t) : ∀ {M : List Nat} {a : Act}, t < a.tmps.size → M.Nodup → (∀ j, j ∈ M → ∀ k, k ∈ M → j ≠ k → ∀ t, slotAt ops j = some t → slotAt ops k ≠ some t) → i ∈ M →
    (putSel ops L v M a).eval (.tmp t) = v i
  | [], _, _, _, _, hi => absurd hi (by simp)
  | k :: M, a, hs, hn, hd, hi => by
    have hn' := List.nodup_cons.1 hn
    unfold putSel
    by_cases c : k = i
    · subst c
      rw [if_pos hL, putSel_old (fun j hj => fun e => hd j (by simp [hj]) k (by simp) (fun e => hn'.1 (e ▸ hj)) t e ht), ht]
      simp [Act.eval, Act.put, hs]
    · have hi' : i ∈ M := by
        rcases List.mem_cons.1 hi with e | e
        · exact absurd e.symm c
        · exact e
      refine putSel_new hL ht ?_ hn'.2 (fun j hj k hk => hd j (by simp [hj]) k (by simp [hk])) hi'
      by_cases q : L k = true
      · rw [if_pos q, put_size]; exact hs
      · rw [if_neg q]; exact hs

theorem putSel_const (a : Act) (ops : Array Oper) (L : Nat → Bool) (v : Nat → Value) (M : List Nat) (x : Operand) (h : ∀ t, x ≠ .tmp t) : (putSel ops L v M a).eval x = a.eval x := by
  cases x with
  | tmp t => exact absurd rfl (h t)
  | _ => rfl

/-- What the region's text must show of the operations M. -/
def phaseOk (md : Region.Mode) (ops : Array Oper) (listed : Array Bool) (M : List Nat) (n : Nat) : Bool :=
  listed.size == ops.size && decide (M.Nodup) &&
  M.all (fun k => listed.getD k true == false && match ops[k]? with
    | none => false
    | some o => o.guard == none && (match o.dst with | some t => decide (t < n) | none => false) && o.after.all (fun e => !Region.binds md e || listed.getD e.on false || (M.contains e.on && decide (e.on < k)))) &&
  M.all (fun j => M.all fun k => j == k || slotAt ops j != slotAt ops k) &&
  (List.range ops.size).all (fun j => listed.getD j true || M.contains j || M.all fun m => match ops[j]? with
    | none => false
    | some o => o.after.any fun e => Region.binds md e && e.on == m)

theorem left_upd {L : Nat → Bool} {i : Nat} (hL : L i = false) : ∀ {M : List Nat} {m : Nat}, M.Nodup → i ∈ M → (M.filter fun k => !L k).length = m + 1 → (M.filter fun k => !updB L i k).length = m
  | [], _, _, hi, _ => absurd hi (by simp)
  | k :: M, m, hn, hi, h => by
    have hn' := List.nodup_cons.1 hn
    by_cases c : k = i
    · subst c
      rw [List.filter_cons, if_pos (by simp [hL])] at h
      rw [List.filter_cons, if_neg (by simp [updB])]
      have e : M.filter (fun j => !updB L k j) = M.filter (fun j => !L j) := by
        refine List.filter_congr fun j hj => ?_
        have hne : j ≠ k := fun e => hn'.1 (e ▸ hj)
        simp [updB, hne]
      rw [e]; simpa using h
    · have hi' : i ∈ M := by
        rcases List.mem_cons.1 hi with e | e
        · exact absurd e.symm c
        · exact e
      by_cases q : L k = true
      · rw [List.filter_cons, if_neg (by simp [q])] at h
        rw [List.filter_cons, if_neg (by simp [updB, q])]
        exact left_upd hL hn'.2 hi' h
      · rw [List.filter_cons, if_pos (by simp [q])] at h
        rw [List.filter_cons, if_pos (by simp [updB, q, c])]
        match m, h with
        | 0, h =>
          have hf : i ∈ M.filter fun k => !L k := List.mem_filter.2 ⟨hi', by simp [hL]⟩
          have h0 : (M.filter fun k => !L k) = [] := List.eq_nil_of_length_eq_zero (by simpa using h)
          rw [h0] at hf
          exact absurd hf (by simp)
        | m + 1, h => simp [left_upd hL hn'.2 hi' (by simpa using h)]

/-- The operations M come up in whatever order: each by its own contract. R k u w: what operation k has left, u, in the world w; what it says of memory is borne by all that only makes memory. -/
theorem wpAnyH_each {P : Program} {md : Region.Mode} {ops : Array Oper} {Q : Exit → Act → World → Prop} {S : World → Prop} {a : Act} {w : World} {listed : Array Bool} {fuel f0 : Nat} (M : List Nat) (R : Nat → Value → World → Prop)
    (hf : f0 = fuel + M.length) (hok : phaseOk md ops listed M a.tmps.size = true) (hS : ∀ w1, Below w.heap.size w w1 → S w1)
    (stable : ∀ k u w1 w2, Below w1.heap.size w1 w2 → R k u w1 → R k u w2)
    (step : ∀ i, i ∈ M → ∀ o, ops[i]? = some o → ∀ (ev : Operand → Value) w1, Below w.heap.size w w1 → (∀ x, (∀ t, x ≠ .tmp t) → ev x = a.eval x) → (∀ t, (∀ k, k ∈ M → slotAt ops k ≠ some t) → ev (.tmp t) = a.eval (.tmp t)) →
      (∀ e, e ∈ o.after → Region.binds md e = true → e.on ∈ M → ∀ t, slotAt ops e.on = some t → R e.on (ev (.tmp t)) w1) → Does P o ev w1 fun u w2 => Below w1.heap.size w1 w2 ∧ R i u w2)
    (next : ∀ v w1, Below w.heap.size w w1 → (∀ k, k ∈ M → R k (v k) w1) → wpAnyH P md ops Q S fuel (M.foldl (fun l k => l.setIfInBounds k true) listed) (putSel ops (fun _ => true) v M a) w1) :
    wpAnyH P md ops Q S f0 listed a w := by
  simp only [phaseOk, Bool.and_eq_true, decide_eq_true_eq, beq_iff_eq] at hok
  obtain ⟨⟨⟨⟨hsz, hnd⟩, hM⟩, hdd⟩, hO⟩ := hok
  have hd : ∀ j, j ∈ M → ∀ k, k ∈ M → j ≠ k → ∀ t, slotAt ops j = some t → slotAt ops k ≠ some t := fun j hj k hk hne t ht e => by
    have h1 := List.all_eq_true.1 (List.all_eq_true.1 hdd j hj) k hk
    simp [hne, ht, e] at h1
  have key : ∀ (m : Nat) (L : Nat → Bool) (v : Nat → Value) (l1 : Array Bool) (w1 : World), (M.filter fun k => !L k).length = m → l1.size = listed.size → (∀ j d, j < listed.size → l1.getD j d = (listed.getD j d || (M.contains j && L j))) → Below w.heap.size w w1 →
      (∀ k, k ∈ M → L k = true → R k (v k) w1) → wpAnyH P md ops Q S (fuel + m) l1 (putSel ops L v M a) w1 := by
    intro m
    induction m with
    | zero =>
      intro L v l1 w1 hm hl1 hget hb hR
      have hall : ∀ k, k ∈ M → L k = true := fun k hk => by
        have h0 : (M.filter fun k => !L k) = [] := List.eq_nil_of_length_eq_zero hm
        cases q : L k
        · have : k ∈ M.filter fun k => !L k := List.mem_filter.2 ⟨hk, by simp [q]⟩
          rw [h0] at this; exact absurd this (by simp)
        · rfl
      have e1 : l1 = M.foldl (fun l k => l.setIfInBounds k true) listed := by
        have hfold : ∀ (N : List Nat) (l : Array Bool), (N.foldl (fun l k => l.setIfInBounds k true) l).size = l.size ∧ ∀ j, j < l.size → (N.foldl (fun l k => l.setIfInBounds k true) l).getD j true = (l.getD j true || N.contains j) := by
          intro N
          induction N with
          | nil => intro l; simp
          | cons k N ih =>
            intro l
            obtain ⟨i1, i2⟩ := ih (l.setIfInBounds k true)
            refine ⟨by simpa using i1, fun j hj => ?_⟩
            rw [List.foldl_cons, i2 j (by simpa using hj)]
            by_cases c : k = j
            · subst c; simp [hj]
            · rw [getD_set_ne true c]
              simp [List.contains_cons, Ne.symm c]
        obtain ⟨f1, f2⟩ := hfold M listed
        refine Array.ext (by rw [hl1, f1]) fun j h1 h2 => ?_
        have hj : j < listed.size := by omega
        have g1 := hget j true hj
        have g2 := f2 j hj
        have : (M.contains j && L j) = M.contains j := by
          by_cases c : j ∈ M
          · simp [c, hall j c]
          · simp [c]
        rw [this, ← g2] at g1
        simpa [Array.getD, h1, h2] using g1
      have e2 : putSel ops L v M a = putSel ops (fun _ => true) v M a := putSel_same fun k hk => ⟨hall k hk, fun _ => rfl⟩
      rw [e1, e2]
      exact next v w1 hb fun k hk => hR k hk (hall k hk)
    | succ m ih =>
      intro L v l1 w1 hm hl1 hget hb hR
      have hop : ∀ k, k ∈ M → ∃ o, ops[k]? = some o ∧ listed.getD k true = false ∧ o.guard = none ∧ (∃ t, o.dst = some t ∧ t < a.tmps.size) ∧ ∀ e, e ∈ o.after → Region.binds md e = true → listed.getD e.on false = true ∨ (e.on ∈ M ∧ e.on < k) := fun k hk => by
        have h1 := List.all_eq_true.1 hM k hk
        simp only [Bool.and_eq_true, beq_iff_eq] at h1
        obtain ⟨h0, h1⟩ := h1
        cases ho : ops[k]? with
        | none => rw [ho] at h1; simp at h1
        | some o =>
          rw [ho] at h1
          simp only [Bool.and_eq_true] at h1
          obtain ⟨⟨g1, g2⟩, g3⟩ := h1
          refine ⟨o, rfl, h0, by cases hg : o.guard <;> simp_all, ?_, fun e he hbd => ?_⟩
          · cases hdst : o.dst with
            | none => rw [hdst] at g2; simp at g2
            | some t => rw [hdst] at g2; exact ⟨t, rfl, by simpa using g2⟩
          · have := Array.all_eq_true_iff_forall_mem.1 g3 e he
            simp only [hbd, Bool.not_true, Bool.false_or, Bool.or_eq_true, Bool.and_eq_true, decide_eq_true_eq, List.contains_iff_mem] at this
            exact this
      have hlt : ∀ k, k ∈ M → k < listed.size := fun k hk => by
        obtain ⟨o, ho, _⟩ := hop k hk
        rw [hsz]; exact (Array.getElem?_eq_some_iff.1 ho).1
      have hltE : ∀ j, listed.getD j false = true → j < listed.size := fun j hj => by
        rcases Nat.lt_or_ge j listed.size with h | h
        · exact h
        · simp [Array.getElem?_eq_none h] at hj
      refine ⟨fun hno => ?_, fun i hi => ?_⟩
      · exfalso
        have hall : ∀ n, ∀ k, k < n → k ∈ M → L k = true := by
          intro n
          induction n with
          | zero => intro k hk; omega
          | succ n ihn =>
            intro k hk hkM
            cases q : L k
            · obtain ⟨o, ho, hu, _, _, haft⟩ := hop k hkM
              have hr : k ∈ Region.ready md ops l1 := by
                refine mem_ready.2 ⟨?_, o, ho, fun e he hbd => ?_⟩
                · rw [hget k true (hlt k hkM), hu, q]; simp
                · rcases haft e he hbd with h | ⟨h1, h2⟩
                  · rw [hget _ false (hltE _ h), h]; simp
                  · rw [hget _ false (hlt _ h1), ihn e.on (by omega) h1]; simp [h1]
              rw [hno] at hr; exact absurd hr (by simp)
            · rfl
        have h0 : (M.filter fun k => !L k) = [] := List.filter_eq_nil_iff.2 fun k hk => by simp [hall (k + 1) k (by omega) hk]
        rw [h0] at hm; simp at hm
      · obtain ⟨hun, o, ho, hafter⟩ := mem_ready.1 hi
        have hio : i < listed.size := by rw [hsz]; exact (Array.getElem?_eq_some_iff.1 ho).1
        rw [hget i true hio] at hun
        simp only [Bool.or_eq_false_iff] at hun
        have hiM : i ∈ M := by
          have h1 := List.all_eq_true.1 hO i (List.mem_range.2 (by omega))
          simp only [hun.1, Bool.false_or, Bool.or_eq_true, List.contains_iff_mem, ho] at h1
          rcases h1 with h1 | h1
          · exact h1
          · exfalso
            have h0 : (M.filter fun k => !L k) = [] := List.filter_eq_nil_iff.2 fun k hk => by
              have h2 := List.all_eq_true.1 h1 k hk
              obtain ⟨e, he, h3⟩ := Array.any_eq_true'.1 h2
              simp only [Bool.and_eq_true, beq_iff_eq] at h3
              have h4 := hafter e he h3.1
              rw [h3.2, hget k false (hlt k hk)] at h4
              obtain ⟨_, _, hu, _⟩ := hop k hk
              have hu' : listed.getD k false = false := by
                have := hlt k hk
                simpa [Array.getD, this] using hu
              rw [hu'] at h4
              simp at h4
              simp [h4.2]
            rw [h0] at hm; simp at hm
        have hLi : L i = false := by
          have := hun.2
          simpa [hiM] using this
        obtain ⟨o', ho', _, hgd, ⟨t, hdst, hts⟩, haft⟩ := hop i hiM
        obtain rfl : o' = o := Option.some.inj (ho'.symm.trans ho)
        have hslot : slotAt ops i = some t := by simp [slotAt, ho, hdst]
        have hdoes := step i hiM o' ho (putSel ops L v M a).eval w1 hb (fun x hx => putSel_const a ops L v M x hx) (fun t ht => putSel_old ht) (fun e he hbd heM t ht => by
          have h1 := hafter e he hbd
          rw [hget _ false (hlt _ heM)] at h1
          obtain ⟨oe, hoe, hu, _, ⟨te, hte, htes⟩, _⟩ := hop _ heM
          have hu' : listed.getD e.on false = false := by
            have := hlt _ heM
            simpa [Array.getD, this] using hu
          rw [hu'] at h1
          simp only [Bool.false_or, Bool.and_eq_true] at h1
          have hte' : slotAt ops e.on = some te := by simp [slotAt, hoe, hte]
          obtain rfl : te = t := Option.some.inj (hte'.symm.trans ht)
          rw [putSel_new h1.2 ht htes hnd hd heM]
          exact hR _ heM h1.2)
        unfold wpOp
        simp only [ho]
        rw [if_pos (by simp [Region.wanted, hgd])]
        refine .inl (hdoes.wp fun u w2 hu => ?_)
        have hb2 : Below w.heap.size w w2 := hb.trans (hu.1.mono hb.size)
        refine ⟨hS w2 hb2, ?_⟩
        rw [hdst, ← hslot, putSel_upd hLi hnd hd hiM]
        refine ih (updB L i) (updV v i u) _ w2 (left_upd hLi hnd hiM hm) (by simpa using hl1) (fun j d hj => ?_) hb2 (fun k hk hLk => ?_)
        · by_cases c : i = j
          · subst c
            simp [updB, hiM, hl1, hj]
          · rw [getD_set_ne d c, hget j d hj]
            have : (j == i) = false := by simp [Ne.symm c]
            simp [updB, this]
        · by_cases c : k = i
          · subst c; simpa [updV] using hu.2
          · have hLk' : L k = true := by simpa [updB, c] using hLk
            simpa [updV, c] using stable k (v k) w1 w2 hu.1 (hR k hk hLk')
  have h0 := key M.length (fun _ => false) (fun _ => undef) listed w (by rw [List.filter_eq_self.2 (fun _ _ => by simp)]) rfl (fun j d hj => by simp) (Below.refl _ _) (fun _ _ h => absurd h (by simp))
  have e0 : putSel ops (fun _ => false) (fun _ => undef) M a = a := by
    have : ∀ (N : List Nat) (a : Act), putSel ops (fun _ => false) (fun _ => undef) N a = a := by
      intro N
      induction N with
      | nil => intro a; rfl
      | cons k N ih => intro a; unfold putSel; rw [if_neg (by simp)]; exact ih a
    exact this M a
  rw [e0] at h0
  rw [hf]; exact h0
end Go.Proofs.Ytkbccccjjlkgbaa

/- Layer 14: are the bus and the document's the same? (By gen-bussame.py.) -/
namespace Go.Proofs.Ytkbccccjjlkgbaa
open Go.RowKit
set_option linter.unusedVariables false
set_option linter.unusedSimpArgs false
set_option maxRecDepth 100000

/-- SameBytes of the same bytes. -/
theorem same14 {v v' : Value} {n : Nat} {f : Nat → Int} {w : World} (hn : n ≤ 100000) (h : IsRowV w v n f) (h' : IsRowV w v' n f) :
    Calls Try.prog 37 #[v, v'] w fun e w' => e = .returned (.bool true) ∧ Q w w' := by
  obtain ⟨a, c, rfl, h⟩ := h
  obtain ⟨a', c', rfl, h'⟩ := h'
  rcases h with rfl | ⟨b, o, rfl, hc⟩
  · exact same_none _ _ _ _ w
  · rcases h' with rfl | ⟨b', o', rfl, hc'⟩
    · exact same_none _ _ _ _ w
    · exact same_yes f _ _ _ _ _ _ _ w (by unfold maxLen; omega) hc hc'

def SmW (w : World) (B R P C A K : Nat) (S : Nat → Prop) (len : Nat) (T Y : Nat → Int) (x : BS) (a : Option Addr) (cap Zm cm : Nat) (ra : Option Addr) (rc : Nat) (oa : Option Addr) (oc : Nat) (W : World) : Prop :=
  Below w.heap.size w W ∧ BoxB W w.heap.size (.slice (some ⟨Zm, 0, none⟩) (64 * K) cm) (.slice a len cap) (.int .i64 (x.s.c : Int)) (.slice ra x.s.n rc) (.bool x.s.ov) (.slice oa x.s.m oc) (.int .u64 x.o) (.int .u64 x.m) (.bool x.sf) (.bool x.off) (.int .u32 x.code) ∧ IsBus W B R P C A K S len T Y x ∧ IsRowV W (.slice (some ⟨Zm, 0, none⟩) (64 * K) cm) (64 * K) x.b ∧ IsRowV W (.slice ra x.s.n rc) x.s.n x.s.f ∧ IsRowV W (.slice oa x.s.m oc) x.s.m x.s.g
theorem SmW.on {w : World} {B R P C A K : Nat} {S : Nat → Prop} {len : Nat} {T Y : Nat → Int} {x : BS} {a : Option Addr} {cap Zm cm : Nat} {ra : Option Addr} {rc : Nat} {oa : Option Addr} {oc : Nat} {w1 w2 : World} (h : SmW w B R P C A K S len T Y x a cap Zm cm ra rc oa oc w1) (hb : Below w1.heap.size w1 w2) : SmW w B R P C A K S len T Y x a cap Zm cm ra rc oa oc w2 := by
  obtain ⟨h1, h2, h3, h4, h5, h6⟩ := h
  exact ⟨h1.trans (hb.mono h1.size), h2.on hb, h3.on hb, h4.on hb, h5.on hb, h6.on hb⟩

set_option maxHeartbeats 8000000 in
theorem same14_any {B R P C A K : Nat} {S : Nat → Prop} {T Y : Nat → Int} {x : BS} {u : Value} {a : Option Addr} {len cap : Nat} {Sx : Nat → Prop} (t : Int) (w : World) (hK1 : 1 ≤ K) (hK : K ≤ 1024) (hm : x.s.m ≤ 100000) (hi : IsBus w B R P C A K S len T Y x) (h : RefB Sx w u a len cap K x) :
    Calls Try.prog 13 #[.pointer (some ⟨B, 0, none⟩), u, .int .u64 t] w fun e w' => e = .returned (.bool true) ∧ Below w.heap.size w w' := by
  obtain ⟨mv, rx, out, rfl, h0, hx, ho⟩ := id h
  obtain ⟨Zm, cm, rfl, -, -, -, hrow0⟩ := id h0
  have hx := hx.row
  have ho := ho.row
  obtain ⟨ra, rc, rfl, hx2⟩ := id hx
  obtain ⟨oa, oc, rfl, ho2⟩ := id ho
  have hm0 : IsRowV w (.slice (some ⟨Zm, 0, none⟩) (64 * K) cm) (64 * K) x.b := ⟨_, _, rfl, .inr ⟨Zm, 0, rfl, fun i hi => by rw [Nat.zero_add]; exact hrow0 i hi⟩⟩
  obtain ⟨W0, hW0⟩ : ∃ W0, W0 = w.alloc (.cells #[.slice (some ⟨Zm, 0, none⟩) (64 * K) cm, .slice a len cap, .int .i64 (x.s.c : Int), .slice ra x.s.n rc, .bool x.s.ov, .slice oa x.s.m oc, .int .u64 x.o, .int .u64 x.m, .bool x.sf, .bool x.off, .int .u32 x.code] 39) := ⟨_, rfl⟩
  have HW0 := Lib.hid hW0
  have hb0 : Below w.heap.size w W0 := by rw [hW0]; exact (Below.refl _ _).alloc (Nat.le_refl _) _
  have HS0 : Hid (SmW w B R P C A K S len T Y x a cap Zm cm ra rc oa oc W0) := ⟨hb0, by rw [hW0]; exact boxB_new _ _ _ _ _ _ _ _ _ _ _ _, hi.on hb0, hm0.on hb0, hx.on hb0, ho.on hb0⟩
  have HK : Hid (1 ≤ K ∧ K ≤ 1024) := ⟨hK1, hK⟩
  have HN1 : Hid (64 * K ≤ 100000) := by show _ ≤ _; omega
  have HN2 : Hid (x.s.n ≤ 100000) := by have := hi.2.2.1.le; show _ ≤ _; omega
  have HM : Hid (x.s.m ≤ 100000) := hm
  have HG : Hid (∃ z : Int, (∀ W, IsBus W B R P C A K S len T Y x → Calls Try.prog 27 #[.pointer (some ⟨B, 0, none⟩), .int .u64 t] W fun e w' => e = .returned (.int .u32 z) ∧ Q W w') ∧ (∀ W, Below w.heap.size w W → Calls Try.prog 36 #[.agg #[.slice (some ⟨Zm, 0, none⟩) (64 * K) cm, .slice a len cap, .int .i64 (x.s.c : Int), .slice ra x.s.n rc, .bool x.s.ov, .slice oa x.s.m oc, .int .u64 x.o, .int .u64 x.m, .bool x.sf, .bool x.off, .int .u32 x.code], .int .u64 t] W fun e w' => e = .returned (.int .u32 z) ∧ Below W.heap.size W w')) :=
    ⟨_, fun W hW => bcalls_any t W hW, fun W hW => rcalls14_any t W (h.on hW)⟩
  clear h h0 hrow0 hx ho hx2 ho2 hm0 hW0 hb0 hi hm hK hK1
  obtain ⟨z, hca, hrc⟩ := HG.out
  have HCA := Lib.hid hca
  have HRC := Lib.hid hrc
  clear hca hrc HG
  go_enter Try.func13, Try.ntmps13
  go_wp2_with fail
  rw [← HW0.out]
  refine (boff_any W0 HS0.out.2.2.1.1).mono ?_
  rintro e W1 ⟨rfl, hq⟩
  have HS1 := Lib.hid (HS0.out.on (hq.below _))
  clear hq HS0
  go_wp2_with fail
  refine (btim_any W1 HS1.out.2.2.1.1).mono ?_
  rintro e w' ⟨rfl, hw⟩
  have hw := hw.symm
  subst hw
  go_wp2_with fail
  refine wp_region_held_drew (S := SmW w B R P C A K S len T Y x a cap Zm cm ra rc oa oc) (by kernel_rfl) (HS1.out.on ((Below.refl _ _).drew)) (fun hHeld => ?_)
  refine wpAnyH_take (i := 0) (oi := ?o0_5) (v := ?v0_5) ?ho0_5 (by kernel_rfl) (by kernel_rfl) (by kernel_rfl) ?q0_5 ?y0_5 (by assumption) ?rest0_5
  case ho0_5 => (simp only [List.getElem?_toArray, List.getElem?_cons_succ, List.getElem?_cons_zero]; rfl)
  case q0_5 => exact fun _ _ _ h => h
  case y0_5 => (refine Or.inl ⟨by rfl, ?_⟩; intro w hSw; (try dsimp only at hSw); go_simp; try with_reducible rfl)
  try simp only [Act.put, List.setIfInBounds_toArray, List.set_cons_zero, List.set_cons_succ]
  refine wpAnyH_take (i := 1) (oi := ?o1_5) (v := ?v1_5) ?ho1_5 (by kernel_rfl) (by kernel_rfl) (by kernel_rfl) ?q1_5 ?y1_5 (by assumption) ?rest1_5
  case ho1_5 => (simp only [List.getElem?_toArray, List.getElem?_cons_succ, List.getElem?_cons_zero]; rfl)
  case q1_5 => exact fun _ _ _ h => h
  case y1_5 => (refine Or.inl ⟨by rfl, ?_⟩; intro w hSw; (try dsimp only at hSw); go_simp; try with_reducible rfl)
  try simp only [Act.put, List.setIfInBounds_toArray, List.set_cons_zero, List.set_cons_succ]
  refine wpAnyH_take (i := 2) (oi := ?o2_5) (v := ?v2_5) ?ho2_5 (by kernel_rfl) (by kernel_rfl) (by kernel_rfl) ?q2_5 ?y2_5 (by assumption) ?rest2_5
  case ho2_5 => (simp only [List.getElem?_toArray, List.getElem?_cons_succ, List.getElem?_cons_zero]; rfl)
  case q2_5 => exact fun _ _ _ h => h
  case y2_5 => (refine Or.inl ⟨by rfl, ?_⟩; intro w hSw; (try dsimp only at hSw); obtain ⟨q0, q1, q2, q3, q4, q5, q6, q7, q8, q9, q10⟩ := hSw.2.1.cells; go_simp; try with_reducible rfl)
  try simp only [Act.put, List.setIfInBounds_toArray, List.set_cons_zero, List.set_cons_succ]
  refine wpAnyH_take (i := 3) (oi := ?o3_5) (v := ?v3_5) ?ho3_5 (by kernel_rfl) (by kernel_rfl) (by kernel_rfl) ?q3_5 ?y3_5 (by assumption) ?rest3_5
  case ho3_5 => (simp only [List.getElem?_toArray, List.getElem?_cons_succ, List.getElem?_cons_zero]; rfl)
  case q3_5 => exact fun _ _ _ h => h
  case y3_5 => (refine Or.inl ⟨by rfl, ?_⟩; intro w hSw; (try dsimp only at hSw); go_simp; try with_reducible rfl)
  try simp only [Act.put, List.setIfInBounds_toArray, List.set_cons_zero, List.set_cons_succ]
  refine wpAnyH_take (i := 4) (oi := ?o4_5) (v := ?v4_5) ?ho4_5 (by kernel_rfl) (by kernel_rfl) (by kernel_rfl) ?q4_5 ?y4_5 (by assumption) ?rest4_5
  case ho4_5 => (simp only [List.getElem?_toArray, List.getElem?_cons_succ, List.getElem?_cons_zero]; rfl)
  case q4_5 => exact fun _ _ _ h => h
  case y4_5 => (refine Or.inl ⟨by rfl, ?_⟩; intro w hSw; (try dsimp only at hSw); go_simp; try with_reducible rfl)
  try simp only [Act.put, List.setIfInBounds_toArray, List.set_cons_zero, List.set_cons_succ]
  refine wpAnyH_take (i := 5) (oi := ?o5_5) (v := ?v5_5) ?ho5_5 (by kernel_rfl) (by kernel_rfl) (by kernel_rfl) ?q5_5 ?y5_5 (by assumption) ?rest5_5
  case ho5_5 => (simp only [List.getElem?_toArray, List.getElem?_cons_succ, List.getElem?_cons_zero]; rfl)
  case q5_5 => exact fun _ _ _ h => h
  case y5_5 => (refine Or.inl ⟨by rfl, ?_⟩; intro w hSw; (try dsimp only at hSw); go_simp; try with_reducible rfl)
  try simp only [Act.put, List.setIfInBounds_toArray, List.set_cons_zero, List.set_cons_succ]
  refine wpAnyH_take (i := 6) (oi := ?o6_5) (v := ?v6_5) ?ho6_5 (by kernel_rfl) (by kernel_rfl) (by kernel_rfl) ?q6_5 ?y6_5 (by assumption) ?rest6_5
  case ho6_5 => (simp only [List.getElem?_toArray, List.getElem?_cons_succ, List.getElem?_cons_zero]; rfl)
  case q6_5 => exact fun _ _ _ h => h
  case y6_5 => (refine Or.inl ⟨by rfl, ?_⟩; intro w hSw; (try dsimp only at hSw); go_simp; try with_reducible rfl)
  try simp only [Act.put, List.setIfInBounds_toArray, List.set_cons_zero, List.set_cons_succ]
  refine wpAnyH_take (i := 7) (oi := ?o7_5) (v := ?v7_5) ?ho7_5 (by kernel_rfl) (by kernel_rfl) (by kernel_rfl) ?q7_5 ?y7_5 (by assumption) ?rest7_5
  case ho7_5 => (simp only [List.getElem?_toArray, List.getElem?_cons_succ, List.getElem?_cons_zero]; rfl)
  case q7_5 => exact fun _ _ _ h => h
  case y7_5 => (refine Or.inl ⟨by rfl, ?_⟩; intro w hSw; (try dsimp only at hSw); obtain ⟨q0, q1, q2, q3, q4, q5, q6, q7, q8, q9, q10⟩ := hSw.2.1.cells; go_simp; try with_reducible rfl)
  try simp only [Act.put, List.setIfInBounds_toArray, List.set_cons_zero, List.set_cons_succ]
  refine wpAnyH_take (i := 8) (oi := ?o8_5) (v := ?v8_5) ?ho8_5 (by kernel_rfl) (by kernel_rfl) (by kernel_rfl) ?q8_5 ?y8_5 (by assumption) ?rest8_5
  case ho8_5 => (simp only [List.getElem?_toArray, List.getElem?_cons_succ, List.getElem?_cons_zero]; rfl)
  case q8_5 => exact fun _ _ _ h => h
  case y8_5 => (refine Or.inl ⟨by rfl, ?_⟩; intro w hSw; (try dsimp only at hSw); go_simp; try with_reducible rfl)
  try simp only [Act.put, List.setIfInBounds_toArray, List.set_cons_zero, List.set_cons_succ]
  refine wpAnyH_take (i := 9) (oi := ?o9_5) (v := ?v9_5) ?ho9_5 (by kernel_rfl) (by kernel_rfl) (by kernel_rfl) ?q9_5 ?y9_5 (by assumption) ?rest9_5
  case ho9_5 => (simp only [List.getElem?_toArray, List.getElem?_cons_succ, List.getElem?_cons_zero]; rfl)
  case q9_5 => exact fun _ _ _ h => h
  case y9_5 => (refine Or.inl ⟨by rfl, ?_⟩; intro w hSw; (try dsimp only at hSw); go_simp; try with_reducible rfl)
  try simp only [Act.put, List.setIfInBounds_toArray, List.set_cons_zero, List.set_cons_succ]
  refine wpAnyH_take (i := 10) (oi := ?o10_5) (v := ?v10_5) ?ho10_5 (by kernel_rfl) (by kernel_rfl) (by kernel_rfl) ?q10_5 ?y10_5 (by assumption) ?rest10_5
  case ho10_5 => (simp only [List.getElem?_toArray, List.getElem?_cons_succ, List.getElem?_cons_zero]; rfl)
  case q10_5 => exact fun _ _ _ h => h
  case y10_5 => (refine Or.inl ⟨by rfl, ?_⟩; intro w hSw; (try dsimp only at hSw); go_simp; try with_reducible rfl)
  try simp only [Act.put, List.setIfInBounds_toArray, List.set_cons_zero, List.set_cons_succ]
  refine wpAnyH_take (i := 11) (oi := ?o11_5) (v := ?v11_5) ?ho11_5 (by kernel_rfl) (by kernel_rfl) (by kernel_rfl) ?q11_5 ?y11_5 (by assumption) ?rest11_5
  case ho11_5 => (simp only [List.getElem?_toArray, List.getElem?_cons_succ, List.getElem?_cons_zero]; rfl)
  case q11_5 => exact fun _ _ _ h => h
  case y11_5 => (refine Or.inl ⟨by rfl, ?_⟩; intro w hSw; (try dsimp only at hSw); go_simp; try with_reducible rfl)
  try simp only [Act.put, List.setIfInBounds_toArray, List.set_cons_zero, List.set_cons_succ]
  refine wpAnyH_take (i := 12) (oi := ?o12_5) (v := ?v12_5) ?ho12_5 (by kernel_rfl) (by kernel_rfl) (by kernel_rfl) ?q12_5 ?y12_5 (by assumption) ?rest12_5
  case ho12_5 => (simp only [List.getElem?_toArray, List.getElem?_cons_succ, List.getElem?_cons_zero]; rfl)
  case q12_5 => exact fun _ _ _ h => h
  case y12_5 => (refine Or.inl ⟨by rfl, ?_⟩; intro w hSw; (try dsimp only at hSw); go_simp; try with_reducible rfl)
  try simp only [Act.put, List.setIfInBounds_toArray, List.set_cons_zero, List.set_cons_succ]
  refine wpAnyH_take (i := 14) (oi := ?o14_5) (v := ?v14_5) ?ho14_5 (by kernel_rfl) (by kernel_rfl) (by kernel_rfl) ?q14_5 ?y14_5 (by assumption) ?rest14_5
  case ho14_5 => (simp only [List.getElem?_toArray, List.getElem?_cons_succ, List.getElem?_cons_zero]; rfl)
  case q14_5 => exact fun _ _ _ h => h
  case y14_5 => (refine Or.inl ⟨by rfl, ?_⟩; intro w hSw; (try dsimp only at hSw); obtain ⟨q0, q1, q2, q3, q4, q5, q6, q7, q8, q9, q10⟩ := hSw.2.1.cells; go_simp; try with_reducible rfl)
  try simp only [Act.put, List.setIfInBounds_toArray, List.set_cons_zero, List.set_cons_succ]
  refine wpAnyH_take (i := 15) (oi := ?o15_5) (v := ?v15_5) ?ho15_5 (by kernel_rfl) (by kernel_rfl) (by kernel_rfl) ?q15_5 ?y15_5 (by assumption) ?rest15_5
  case ho15_5 => (simp only [List.getElem?_toArray, List.getElem?_cons_succ, List.getElem?_cons_zero]; rfl)
  case q15_5 => exact fun _ _ _ h => h
  case y15_5 => (refine Or.inl ⟨by rfl, ?_⟩; intro w hSw; (try dsimp only at hSw); go_simp; try with_reducible rfl)
  try simp only [Act.put, List.setIfInBounds_toArray, List.set_cons_zero, List.set_cons_succ]
  refine wpAnyH_ready (rs := [13]) (by kernel_rfl) (by simp) (AllReadyH.cons rfl (fun Kx hKx => ?_) AllReadyH.nil)
  go_simp
  refine (HCA.out _ hHeld.2.2.1).mono ?_
  rintro e v13 ⟨rfl, hq⟩
  have hb13 := hHeld.on (hq.below _)
  clear hq
  try go_wp2_with fail
  refine hKx.out _ _ hb13 (fun hHeld => ?_)
  clear hKx Kx
  try simp only [Act.put, List.setIfInBounds_toArray, List.set_cons_zero, List.set_cons_succ]
  refine wpAnyH_ready (rs := [16]) (by kernel_rfl) (by simp) (AllReadyH.cons rfl (fun Kx hKx => ?_) AllReadyH.nil)
  go_simp
  refine (HRC.out _ hHeld.1).mono ?_
  rintro e v16 ⟨rfl, hb⟩
  have hb16 := hHeld.on hb
  clear hb
  try go_wp2_with fail
  refine hKx.out _ _ hb16 (fun hHeld => ?_)
  clear hKx Kx
  try simp only [Act.put, List.setIfInBounds_toArray, List.set_cons_zero, List.set_cons_succ]
  refine wpAnyH_take (i := 17) (oi := ?o17_5) (v := ?v17_5) ?ho17_5 (by kernel_rfl) (by kernel_rfl) (by kernel_rfl) ?q17_5 ?y17_5 (by assumption) ?rest17_5
  case ho17_5 => (simp only [List.getElem?_toArray, List.getElem?_cons_succ, List.getElem?_cons_zero]; rfl)
  case q17_5 => exact fun _ _ _ h => h
  case y17_5 => (refine Or.inl ⟨by rfl, ?_⟩; intro w hSw; (try dsimp only at hSw); go_simp; try with_reducible rfl)
  try simp only [Act.put, List.setIfInBounds_toArray, List.set_cons_zero, List.set_cons_succ]
  refine wpAnyH_take (i := 18) (oi := ?o18_5) (v := ?v18_5) ?ho18_5 (by kernel_rfl) (by kernel_rfl) (by kernel_rfl) ?q18_5 ?y18_5 (by assumption) ?rest18_5
  case ho18_5 => (simp only [List.getElem?_toArray, List.getElem?_cons_succ, List.getElem?_cons_zero]; rfl)
  case q18_5 => exact fun _ _ _ h => h
  case y18_5 => (refine Or.inl ⟨by rfl, ?_⟩; intro w hSw; (try dsimp only at hSw); go_simp; try with_reducible rfl)
  try simp only [Act.put, List.setIfInBounds_toArray, List.set_cons_zero, List.set_cons_succ]
  refine wpAnyH_take (i := 19) (oi := ?o19_5) (v := ?v19_5) ?ho19_5 (by kernel_rfl) (by kernel_rfl) (by kernel_rfl) ?q19_5 ?y19_5 (by assumption) ?rest19_5
  case ho19_5 => (simp only [List.getElem?_toArray, List.getElem?_cons_succ, List.getElem?_cons_zero]; rfl)
  case q19_5 => exact fun _ _ _ h => h
  case y19_5 => (refine Or.inl ⟨by rfl, ?_⟩; intro w hSw; (try dsimp only at hSw); go_simp; try with_reducible rfl)
  try simp only [Act.put, List.setIfInBounds_toArray, List.set_cons_zero, List.set_cons_succ]
  refine wpAnyH_take (i := 20) (oi := ?o20_5) (v := ?v20_5) ?ho20_5 (by kernel_rfl) (by kernel_rfl) (by kernel_rfl) ?q20_5 ?y20_5 (by assumption) ?rest20_5
  case ho20_5 => (simp only [List.getElem?_toArray, List.getElem?_cons_succ, List.getElem?_cons_zero]; rfl)
  case q20_5 => exact fun _ _ _ h => h
  case y20_5 => (refine Or.inl ⟨by rfl, ?_⟩; intro w hSw; (try dsimp only at hSw); go_simp; try with_reducible rfl)
  try simp only [Act.put, List.setIfInBounds_toArray, List.set_cons_zero, List.set_cons_succ]
  refine wpAnyH_take (i := 23) (oi := ?o23_5) (v := ?v23_5) ?ho23_5 (by kernel_rfl) (by kernel_rfl) (by kernel_rfl) ?q23_5 ?y23_5 (by assumption) ?rest23_5
  case ho23_5 => (simp only [List.getElem?_toArray, List.getElem?_cons_succ, List.getElem?_cons_zero]; rfl)
  case q23_5 => exact fun _ _ _ h => h
  case y23_5 => (refine Or.inl ⟨by rfl, ?_⟩; intro w hSw; (try dsimp only at hSw); go_simp; try with_reducible rfl)
  try simp only [Act.put, List.setIfInBounds_toArray, List.set_cons_zero, List.set_cons_succ]
  refine wpAnyH_take (i := 24) (oi := ?o24_5) (v := ?v24_5) ?ho24_5 (by kernel_rfl) (by kernel_rfl) (by kernel_rfl) ?q24_5 ?y24_5 (by assumption) ?rest24_5
  case ho24_5 => (simp only [List.getElem?_toArray, List.getElem?_cons_succ, List.getElem?_cons_zero]; rfl)
  case q24_5 => exact fun _ _ _ h => h
  case y24_5 => (refine Or.inl ⟨by rfl, ?_⟩; intro w hSw; (try dsimp only at hSw); obtain ⟨q0, q1, q2, q3, q4, q5, q6, q7, q8, q9, q10⟩ := hSw.2.1.cells; go_simp; try with_reducible rfl)
  try simp only [Act.put, List.setIfInBounds_toArray, List.set_cons_zero, List.set_cons_succ]
  refine wpAnyH_ready (rs := [21]) (by kernel_rfl) (by simp) (AllReadyH.cons rfl (fun Kx hKx => ?_) AllReadyH.nil)
  go_simp
  refine (bram_any _ hHeld.2.2.1.1).mono ?_
  rintro e w' ⟨rfl, hw⟩
  have hw := hw.symm
  subst hw
  try go_wp2_with fail
  refine hKx.out _ _ hHeld (fun hHeld => ?_)
  clear hKx Kx
  try simp only [Act.put, List.setIfInBounds_toArray, List.set_cons_zero, List.set_cons_succ]
  refine wpAnyH_ready (rs := [22]) (by kernel_rfl) (by simp) (AllReadyH.cons rfl (fun Kx hKx => ?_) AllReadyH.nil)
  go_simp
  refine (bytes_any R P K _ _ _ _ HK.out.1 HK.out.2 hHeld.2.2.1.2.1).mono ?_
  rintro e v22 ⟨Bz, rfl, -, hrow, hb⟩
  have hb22 := hHeld.on hb
  have HROW : Hid (IsRowV v22 (.slice (some ⟨Bz, 0, none⟩) (64 * K) (64 * K)) (64 * K) x.b) := ⟨_, _, rfl, .inr ⟨Bz, 0, rfl, fun i hi => by rw [Nat.zero_add]; exact hrow i hi⟩⟩
  clear hb hrow
  try go_wp2_with fail
  refine hKx.out _ _ hb22 (fun hHeld => ?_)
  clear hKx Kx
  try simp only [Act.put, List.setIfInBounds_toArray, List.set_cons_zero, List.set_cons_succ]
  refine wpAnyH_ready (rs := [25]) (by kernel_rfl) (by simp) (AllReadyH.cons rfl (fun Kx hKx => ?_) AllReadyH.nil)
  go_simp
  refine (same14 HN1.out HROW.out hHeld.2.2.2.1).mono ?_
  rintro e v25 ⟨rfl, hq⟩
  have hb25 := hHeld.on (hq.below _)
  clear hq
  try go_wp2_with fail
  refine hKx.out _ _ hb25 (fun hHeld => ?_)
  clear hKx Kx
  try simp only [Act.put, List.setIfInBounds_toArray, List.set_cons_zero, List.set_cons_succ]
  refine wpAnyH_take (i := 26) (oi := ?o26_5) (v := ?v26_5) ?ho26_5 (by kernel_rfl) (by kernel_rfl) (by kernel_rfl) ?q26_5 ?y26_5 (by assumption) ?rest26_5
  case ho26_5 => (simp only [List.getElem?_toArray, List.getElem?_cons_succ, List.getElem?_cons_zero]; rfl)
  case q26_5 => exact fun _ _ _ h => h
  case y26_5 => (refine Or.inl ⟨by rfl, ?_⟩; intro w hSw; (try dsimp only at hSw); go_simp; try with_reducible rfl)
  try simp only [Act.put, List.setIfInBounds_toArray, List.set_cons_zero, List.set_cons_succ]
  refine wpAnyH_take (i := 27) (oi := ?o27_5) (v := ?v27_5) ?ho27_5 (by kernel_rfl) (by kernel_rfl) (by kernel_rfl) ?q27_5 ?y27_5 (by assumption) ?rest27_5
  case ho27_5 => (simp only [List.getElem?_toArray, List.getElem?_cons_succ, List.getElem?_cons_zero]; rfl)
  case q27_5 => exact fun _ _ _ h => h
  case y27_5 => (refine Or.inl ⟨by rfl, ?_⟩; intro w hSw; (try dsimp only at hSw); go_simp; try with_reducible rfl)
  try simp only [Act.put, List.setIfInBounds_toArray, List.set_cons_zero, List.set_cons_succ]
  refine wpAnyH_take (i := 28) (oi := ?o28_5) (v := ?v28_5) ?ho28_5 (by kernel_rfl) (by kernel_rfl) (by kernel_rfl) ?q28_5 ?y28_5 (by assumption) ?rest28_5
  case ho28_5 => (simp only [List.getElem?_toArray, List.getElem?_cons_succ, List.getElem?_cons_zero]; rfl)
  case q28_5 => exact fun _ _ _ h => h
  case y28_5 => (refine Or.inl ⟨by rfl, ?_⟩; intro w hSw; (try dsimp only at hSw); go_simp; try with_reducible rfl)
  try simp only [Act.put, List.setIfInBounds_toArray, List.set_cons_zero, List.set_cons_succ]
  refine wpAnyH_take (i := 31) (oi := ?o31_5) (v := ?v31_5) ?ho31_5 (by kernel_rfl) (by kernel_rfl) (by kernel_rfl) ?q31_5 ?y31_5 (by assumption) ?rest31_5
  case ho31_5 => (simp only [List.getElem?_toArray, List.getElem?_cons_succ, List.getElem?_cons_zero]; rfl)
  case q31_5 => exact fun _ _ _ h => h
  case y31_5 => (refine Or.inl ⟨by rfl, ?_⟩; intro w hSw; (try dsimp only at hSw); go_simp; try with_reducible rfl)
  try simp only [Act.put, List.setIfInBounds_toArray, List.set_cons_zero, List.set_cons_succ]
  refine wpAnyH_take (i := 32) (oi := ?o32_5) (v := ?v32_5) ?ho32_5 (by kernel_rfl) (by kernel_rfl) (by kernel_rfl) ?q32_5 ?y32_5 (by assumption) ?rest32_5
  case ho32_5 => (simp only [List.getElem?_toArray, List.getElem?_cons_succ, List.getElem?_cons_zero]; rfl)
  case q32_5 => exact fun _ _ _ h => h
  case y32_5 => (refine Or.inl ⟨by rfl, ?_⟩; intro w hSw; (try dsimp only at hSw); go_simp; try with_reducible rfl)
  try simp only [Act.put, List.setIfInBounds_toArray, List.set_cons_zero, List.set_cons_succ]
  refine wpAnyH_take (i := 33) (oi := ?o33_5) (v := ?v33_5) ?ho33_5 (by kernel_rfl) (by kernel_rfl) (by kernel_rfl) ?q33_5 ?y33_5 (by assumption) ?rest33_5
  case ho33_5 => (simp only [List.getElem?_toArray, List.getElem?_cons_succ, List.getElem?_cons_zero]; rfl)
  case q33_5 => exact fun _ _ _ h => h
  case y33_5 => (refine Or.inl ⟨by rfl, ?_⟩; intro w hSw; (try dsimp only at hSw); obtain ⟨q0, q1, q2, q3, q4, q5, q6, q7, q8, q9, q10⟩ := hSw.2.1.cells; go_simp; try with_reducible rfl)
  try simp only [Act.put, List.setIfInBounds_toArray, List.set_cons_zero, List.set_cons_succ]
  refine wpAnyH_ready (rs := [29]) (by kernel_rfl) (by simp) (AllReadyH.cons rfl (fun Kx hKx => ?_) AllReadyH.nil)
  go_simp
  refine (bcon_any _ hHeld.2.2.1.1).mono ?_
  rintro e w' ⟨rfl, hw⟩
  have hw := hw.symm
  subst hw
  try go_wp2_with fail
  refine hKx.out _ _ hHeld (fun hHeld => ?_)
  clear hKx Kx
  try simp only [Act.put, List.setIfInBounds_toArray, List.set_cons_zero, List.set_cons_succ]
  refine wpAnyH_ready (rs := [30]) (by kernel_rfl) (by simp) (AllReadyH.cons rfl (fun Kx hKx => ?_) AllReadyH.nil)
  go_simp
  refine (cout_any _ HM.out hHeld.2.2.1.2.2.1).mono ?_
  rintro e v30 ⟨vo, rfl, hrow, hb⟩
  have hb30 := hHeld.on hb
  have HROW2 := Lib.hid hrow
  obtain ⟨oa2, oc2, rfl, hrow2⟩ := hrow
  clear hrow2 hb
  try go_wp2_with fail
  refine hKx.out _ _ hb30 (fun hHeld => ?_)
  clear hKx Kx
  try simp only [Act.put, List.setIfInBounds_toArray, List.set_cons_zero, List.set_cons_succ]
  refine wpAnyH_ready (rs := [34]) (by kernel_rfl) (by simp) (AllReadyH.cons rfl (fun Kx hKx => ?_) AllReadyH.nil)
  go_simp
  refine (same14 HM.out HROW2.out hHeld.2.2.2.2.2).mono ?_
  rintro e v34 ⟨rfl, hq⟩
  have hb34 := hHeld.on (hq.below _)
  clear hq
  try go_wp2_with fail
  refine hKx.out _ _ hb34 (fun hHeld => ?_)
  clear hKx Kx
  try simp only [Act.put, List.setIfInBounds_toArray, List.set_cons_zero, List.set_cons_succ]
  refine wpAnyH_take (i := 35) (oi := ?o35_5) (v := ?v35_5) ?ho35_5 (by kernel_rfl) (by kernel_rfl) (by kernel_rfl) ?q35_5 ?y35_5 (by assumption) ?rest35_5
  case ho35_5 => (simp only [List.getElem?_toArray, List.getElem?_cons_succ, List.getElem?_cons_zero]; rfl)
  case q35_5 => exact fun _ _ _ h => h
  case y35_5 => (refine Or.inl ⟨by rfl, ?_⟩; intro w hSw; (try dsimp only at hSw); go_simp; try with_reducible rfl)
  try simp only [Act.put, List.setIfInBounds_toArray, List.set_cons_zero, List.set_cons_succ]
  refine wpAnyH_take (i := 36) (oi := ?o36_5) (v := ?v36_5) ?ho36_5 (by kernel_rfl) (by kernel_rfl) (by kernel_rfl) ?q36_5 ?y36_5 (by assumption) ?rest36_5
  case ho36_5 => (simp only [List.getElem?_toArray, List.getElem?_cons_succ, List.getElem?_cons_zero]; rfl)
  case q36_5 => exact fun _ _ _ h => h
  case y36_5 => (refine Or.inl ⟨by rfl, ?_⟩; intro w hSw; (try dsimp only at hSw); go_simp; try with_reducible rfl)
  try simp only [Act.put, List.setIfInBounds_toArray, List.set_cons_zero, List.set_cons_succ]
  refine wpAnyH_take (i := 37) (oi := ?o37_5) (v := ?v37_5) ?ho37_5 (by kernel_rfl) (by kernel_rfl) (by kernel_rfl) ?q37_5 ?y37_5 (by assumption) ?rest37_5
  case ho37_5 => (simp only [List.getElem?_toArray, List.getElem?_cons_succ, List.getElem?_cons_zero]; rfl)
  case q37_5 => exact fun _ _ _ h => h
  case y37_5 => (refine Or.inl ⟨by rfl, ?_⟩; intro w hSw; (try dsimp only at hSw); go_simp; try with_reducible rfl)
  try simp only [Act.put, List.setIfInBounds_toArray, List.set_cons_zero, List.set_cons_succ]
  refine wpAnyH_take (i := 40) (oi := ?o40_5) (v := ?v40_5) ?ho40_5 (by kernel_rfl) (by kernel_rfl) (by kernel_rfl) ?q40_5 ?y40_5 (by assumption) ?rest40_5
  case ho40_5 => (simp only [List.getElem?_toArray, List.getElem?_cons_succ, List.getElem?_cons_zero]; rfl)
  case q40_5 => exact fun _ _ _ h => h
  case y40_5 => (refine Or.inl ⟨by rfl, ?_⟩; intro w hSw; (try dsimp only at hSw); go_simp; try with_reducible rfl)
  try simp only [Act.put, List.setIfInBounds_toArray, List.set_cons_zero, List.set_cons_succ]
  refine wpAnyH_take (i := 41) (oi := ?o41_5) (v := ?v41_5) ?ho41_5 (by kernel_rfl) (by kernel_rfl) (by kernel_rfl) ?q41_5 ?y41_5 (by assumption) ?rest41_5
  case ho41_5 => (simp only [List.getElem?_toArray, List.getElem?_cons_succ, List.getElem?_cons_zero]; rfl)
  case q41_5 => exact fun _ _ _ h => h
  case y41_5 => (refine Or.inl ⟨by rfl, ?_⟩; intro w hSw; (try dsimp only at hSw); go_simp; try with_reducible rfl)
  try simp only [Act.put, List.setIfInBounds_toArray, List.set_cons_zero, List.set_cons_succ]
  refine wpAnyH_take (i := 42) (oi := ?o42_5) (v := ?v42_5) ?ho42_5 (by kernel_rfl) (by kernel_rfl) (by kernel_rfl) ?q42_5 ?y42_5 (by assumption) ?rest42_5
  case ho42_5 => (simp only [List.getElem?_toArray, List.getElem?_cons_succ, List.getElem?_cons_zero]; rfl)
  case q42_5 => exact fun _ _ _ h => h
  case y42_5 => (refine Or.inl ⟨by rfl, ?_⟩; intro w hSw; (try dsimp only at hSw); obtain ⟨q0, q1, q2, q3, q4, q5, q6, q7, q8, q9, q10⟩ := hSw.2.1.cells; go_simp; try with_reducible rfl)
  try simp only [Act.put, List.setIfInBounds_toArray, List.set_cons_zero, List.set_cons_succ]
  refine wpAnyH_ready (rs := [38]) (by kernel_rfl) (by simp) (AllReadyH.cons rfl (fun Kx hKx => ?_) AllReadyH.nil)
  go_simp
  refine (bcon_any _ hHeld.2.2.1.1).mono ?_
  rintro e w' ⟨rfl, hw⟩
  have hw := hw.symm
  subst hw
  try go_wp2_with fail
  refine hKx.out _ _ hHeld (fun hHeld => ?_)
  clear hKx Kx
  try simp only [Act.put, List.setIfInBounds_toArray, List.set_cons_zero, List.set_cons_succ]
  refine wpAnyH_ready (rs := [39]) (by kernel_rfl) (by simp) (AllReadyH.cons rfl (fun Kx hKx => ?_) AllReadyH.nil)
  go_simp
  refine (cwaits_any _ hHeld.2.2.1.2.2.1).mono ?_
  rintro e v39 ⟨vw, rfl, hrow, hb⟩
  have hb39 := hHeld.on hb
  have HROW3 := Lib.hid hrow
  obtain ⟨wa3, wc3, rfl, hrow3⟩ := hrow
  clear hrow3 hb
  try go_wp2_with fail
  refine hKx.out _ _ hb39 (fun hHeld => ?_)
  clear hKx Kx
  try simp only [Act.put, List.setIfInBounds_toArray, List.set_cons_zero, List.set_cons_succ]
  refine wpAnyH_ready (rs := [43]) (by kernel_rfl) (by simp) (AllReadyH.cons rfl (fun Kx hKx => ?_) AllReadyH.nil)
  go_simp
  refine (same14 HN2.out HROW3.out hHeld.2.2.2.2.1).mono ?_
  rintro e v43 ⟨rfl, hq⟩
  have hb43 := hHeld.on (hq.below _)
  clear hq
  try go_wp2_with fail
  refine hKx.out _ _ hb43 (fun hHeld => ?_)
  clear hKx Kx
  try simp only [Act.put, List.setIfInBounds_toArray, List.set_cons_zero, List.set_cons_succ]
  refine wpAnyH_take (i := 44) (oi := ?o44_5) (v := ?v44_5) ?ho44_5 (by kernel_rfl) (by kernel_rfl) (by kernel_rfl) ?q44_5 ?y44_5 (by assumption) ?rest44_5
  case ho44_5 => (simp only [List.getElem?_toArray, List.getElem?_cons_succ, List.getElem?_cons_zero]; rfl)
  case q44_5 => exact fun _ _ _ h => h
  case y44_5 => (refine Or.inl ⟨by rfl, ?_⟩; intro w hSw; (try dsimp only at hSw); go_simp; try with_reducible rfl)
  try simp only [Act.put, List.setIfInBounds_toArray, List.set_cons_zero, List.set_cons_succ]
  refine wpAnyH_take (i := 45) (oi := ?o45_5) (v := ?v45_5) ?ho45_5 (by kernel_rfl) (by kernel_rfl) (by kernel_rfl) ?q45_5 ?y45_5 (by assumption) ?rest45_5
  case ho45_5 => (simp only [List.getElem?_toArray, List.getElem?_cons_succ, List.getElem?_cons_zero]; rfl)
  case q45_5 => exact fun _ _ _ h => h
  case y45_5 => (refine Or.inl ⟨by rfl, ?_⟩; intro w hSw; (try dsimp only at hSw); go_simp; try with_reducible rfl)
  try simp only [Act.put, List.setIfInBounds_toArray, List.set_cons_zero, List.set_cons_succ]
  refine wpAnyH_take (i := 46) (oi := ?o46_5) (v := ?v46_5) ?ho46_5 (by kernel_rfl) (by kernel_rfl) (by kernel_rfl) ?q46_5 ?y46_5 (by assumption) ?rest46_5
  case ho46_5 => (simp only [List.getElem?_toArray, List.getElem?_cons_succ, List.getElem?_cons_zero]; rfl)
  case q46_5 => exact fun _ _ _ h => h
  case y46_5 => (refine Or.inl ⟨by rfl, ?_⟩; intro w hSw; (try dsimp only at hSw); go_simp; try with_reducible rfl)
  try simp only [Act.put, List.setIfInBounds_toArray, List.set_cons_zero, List.set_cons_succ]
  refine wpAnyH_take (i := 47) (oi := ?o47_5) (v := ?v47_5) ?ho47_5 (by kernel_rfl) (by kernel_rfl) (by kernel_rfl) ?q47_5 ?y47_5 (by assumption) ?rest47_5
  case ho47_5 => (simp only [List.getElem?_toArray, List.getElem?_cons_succ, List.getElem?_cons_zero]; rfl)
  case q47_5 => exact fun _ _ _ h => h
  case y47_5 => (refine Or.inl ⟨by rfl, ?_⟩; intro w hSw; (try dsimp only at hSw); go_simp; try with_reducible rfl)
  try simp only [Act.put, List.setIfInBounds_toArray, List.set_cons_zero, List.set_cons_succ]
  refine wpAnyH_take (i := 48) (oi := ?o48_5) (v := ?v48_5) ?ho48_5 (by kernel_rfl) (by kernel_rfl) (by kernel_rfl) ?q48_5 ?y48_5 (by assumption) ?rest48_5
  case ho48_5 => (simp only [List.getElem?_toArray, List.getElem?_cons_succ, List.getElem?_cons_zero]; rfl)
  case q48_5 => exact fun _ _ _ h => h
  case y48_5 => (refine Or.inl ⟨by rfl, ?_⟩; intro w hSw; (try dsimp only at hSw); obtain ⟨⟨z0, z1, z2⟩, -⟩ := three_cells hSw.2.2.1.2.2.2.1; go_simp; try with_reducible rfl)
  try simp only [Act.put, List.setIfInBounds_toArray, List.set_cons_zero, List.set_cons_succ]
  refine wpAnyH_take (i := 49) (oi := ?o49_5) (v := ?v49_5) ?ho49_5 (by kernel_rfl) (by kernel_rfl) (by kernel_rfl) ?q49_5 ?y49_5 (by assumption) ?rest49_5
  case ho49_5 => (simp only [List.getElem?_toArray, List.getElem?_cons_succ, List.getElem?_cons_zero]; rfl)
  case q49_5 => exact fun _ _ _ h => h
  case y49_5 => (refine Or.inl ⟨by rfl, ?_⟩; intro w hSw; (try dsimp only at hSw); go_simp; try with_reducible rfl)
  try simp only [Act.put, List.setIfInBounds_toArray, List.set_cons_zero, List.set_cons_succ]
  refine wpAnyH_take (i := 50) (oi := ?o50_5) (v := ?v50_5) ?ho50_5 (by kernel_rfl) (by kernel_rfl) (by kernel_rfl) ?q50_5 ?y50_5 (by assumption) ?rest50_5
  case ho50_5 => (simp only [List.getElem?_toArray, List.getElem?_cons_succ, List.getElem?_cons_zero]; rfl)
  case q50_5 => exact fun _ _ _ h => h
  case y50_5 => (refine Or.inl ⟨by rfl, ?_⟩; intro w hSw; (try dsimp only at hSw); go_simp; try with_reducible rfl)
  try simp only [Act.put, List.setIfInBounds_toArray, List.set_cons_zero, List.set_cons_succ]
  refine wpAnyH_take (i := 51) (oi := ?o51_5) (v := ?v51_5) ?ho51_5 (by kernel_rfl) (by kernel_rfl) (by kernel_rfl) ?q51_5 ?y51_5 (by assumption) ?rest51_5
  case ho51_5 => (simp only [List.getElem?_toArray, List.getElem?_cons_succ, List.getElem?_cons_zero]; rfl)
  case q51_5 => exact fun _ _ _ h => h
  case y51_5 => (refine Or.inl ⟨by rfl, ?_⟩; intro w hSw; (try dsimp only at hSw); obtain ⟨q0, q1, q2, q3, q4, q5, q6, q7, q8, q9, q10⟩ := hSw.2.1.cells; go_simp; try with_reducible rfl)
  try simp only [Act.put, List.setIfInBounds_toArray, List.set_cons_zero, List.set_cons_succ]
  refine wpAnyH_take (i := 52) (oi := ?o52_5) (v := ?v52_5) ?ho52_5 (by kernel_rfl) (by kernel_rfl) (by kernel_rfl) ?q52_5 ?y52_5 (by assumption) ?rest52_5
  case ho52_5 => (simp only [List.getElem?_toArray, List.getElem?_cons_succ, List.getElem?_cons_zero]; rfl)
  case q52_5 => exact fun _ _ _ h => h
  case y52_5 => (refine Or.inl ⟨by rfl, ?_⟩; intro w hSw; (try dsimp only at hSw); go_simp; try with_reducible rfl)
  try simp only [Act.put, List.setIfInBounds_toArray, List.set_cons_zero, List.set_cons_succ]
  refine wpAnyH_take (i := 53) (oi := ?o53_5) (v := ?v53_5) ?ho53_5 (by kernel_rfl) (by kernel_rfl) (by kernel_rfl) ?q53_5 ?y53_5 (by assumption) ?rest53_5
  case ho53_5 => (simp only [List.getElem?_toArray, List.getElem?_cons_succ, List.getElem?_cons_zero]; rfl)
  case q53_5 => exact fun _ _ _ h => h
  case y53_5 => (refine Or.inl ⟨by rfl, ?_⟩; intro w hSw; (try dsimp only at hSw); go_simp; try with_reducible rfl)
  try simp only [Act.put, List.setIfInBounds_toArray, List.set_cons_zero, List.set_cons_succ]
  refine wpAnyH_take (i := 54) (oi := ?o54_5) (v := ?v54_5) ?ho54_5 (by kernel_rfl) (by kernel_rfl) (by kernel_rfl) ?q54_5 ?y54_5 (by assumption) ?rest54_5
  case ho54_5 => (simp only [List.getElem?_toArray, List.getElem?_cons_succ, List.getElem?_cons_zero]; rfl)
  case q54_5 => exact fun _ _ _ h => h
  case y54_5 => (refine Or.inl ⟨by rfl, ?_⟩; intro w hSw; (try dsimp only at hSw); obtain ⟨q0, q1, q2, q3, q4, q5, q6, q7, q8, q9, q10⟩ := hSw.2.1.cells; go_simp; try with_reducible rfl)
  try simp only [Act.put, List.setIfInBounds_toArray, List.set_cons_zero, List.set_cons_succ]
  refine wpAnyH_take (i := 55) (oi := ?o55_5) (v := ?v55_5) ?ho55_5 (by kernel_rfl) (by kernel_rfl) (by kernel_rfl) ?q55_5 ?y55_5 (by assumption) ?rest55_5
  case ho55_5 => (simp only [List.getElem?_toArray, List.getElem?_cons_succ, List.getElem?_cons_zero]; rfl)
  case q55_5 => exact fun _ _ _ h => h
  case y55_5 => (refine Or.inl ⟨by rfl, ?_⟩; intro w hSw; (try dsimp only at hSw); go_simp; try with_reducible rfl)
  try simp only [Act.put, List.setIfInBounds_toArray, List.set_cons_zero, List.set_cons_succ]
  refine wpAnyH_take (i := 56) (oi := ?o56_5) (v := ?v56_5) ?ho56_5 (by kernel_rfl) (by kernel_rfl) (by kernel_rfl) ?q56_5 ?y56_5 (by assumption) ?rest56_5
  case ho56_5 => (simp only [List.getElem?_toArray, List.getElem?_cons_succ, List.getElem?_cons_zero]; rfl)
  case q56_5 => exact fun _ _ _ h => h
  case y56_5 => (refine Or.inl ⟨by rfl, ?_⟩; intro w hSw; (try dsimp only at hSw); go_simp; try with_reducible rfl)
  try simp only [Act.put, List.setIfInBounds_toArray, List.set_cons_zero, List.set_cons_succ]
  refine wpAnyH_take (i := 57) (oi := ?o57_5) (v := ?v57_5) ?ho57_5 (by kernel_rfl) (by kernel_rfl) (by kernel_rfl) ?q57_5 ?y57_5 (by assumption) ?rest57_5
  case ho57_5 => (simp only [List.getElem?_toArray, List.getElem?_cons_succ, List.getElem?_cons_zero]; rfl)
  case q57_5 => exact fun _ _ _ h => h
  case y57_5 => (refine Or.inl ⟨by rfl, ?_⟩; intro w hSw; (try dsimp only at hSw); obtain ⟨q0, q1, q2, q3, q4, q5, q6, q7, q8, q9, q10⟩ := hSw.2.1.cells; go_simp; try with_reducible rfl)
  try simp only [Act.put, List.setIfInBounds_toArray, List.set_cons_zero, List.set_cons_succ]
  refine wpAnyH_take (i := 58) (oi := ?o58_5) (v := ?v58_5) ?ho58_5 (by kernel_rfl) (by kernel_rfl) (by kernel_rfl) ?q58_5 ?y58_5 (by assumption) ?rest58_5
  case ho58_5 => (simp only [List.getElem?_toArray, List.getElem?_cons_succ, List.getElem?_cons_zero]; rfl)
  case q58_5 => exact fun _ _ _ h => h
  case y58_5 => (refine Or.inl ⟨by rfl, ?_⟩; intro w hSw; (try dsimp only at hSw); go_simp; try with_reducible rfl)
  try simp only [Act.put, List.setIfInBounds_toArray, List.set_cons_zero, List.set_cons_succ]
  refine wpAnyH_take (i := 59) (oi := ?o59_5) (v := ?v59_5) ?ho59_5 (by kernel_rfl) (by kernel_rfl) (by kernel_rfl) ?q59_5 ?y59_5 (by assumption) ?rest59_5
  case ho59_5 => (simp only [List.getElem?_toArray, List.getElem?_cons_succ, List.getElem?_cons_zero]; rfl)
  case q59_5 => exact fun _ _ _ h => h
  case y59_5 => (refine Or.inl ⟨by rfl, ?_⟩; intro w hSw; (try dsimp only at hSw); go_simp; try with_reducible rfl)
  try simp only [Act.put, List.setIfInBounds_toArray, List.set_cons_zero, List.set_cons_succ]
  refine wpAnyH_take (i := 60) (oi := ?o60_5) (v := ?v60_5) ?ho60_5 (by kernel_rfl) (by kernel_rfl) (by kernel_rfl) ?q60_5 ?y60_5 (by assumption) ?rest60_5
  case ho60_5 => (simp only [List.getElem?_toArray, List.getElem?_cons_succ, List.getElem?_cons_zero]; rfl)
  case q60_5 => exact fun _ _ _ h => h
  case y60_5 => (refine Or.inl ⟨by rfl, ?_⟩; intro w hSw; (try dsimp only at hSw); go_simp; try with_reducible rfl)
  try simp only [Act.put, List.setIfInBounds_toArray, List.set_cons_zero, List.set_cons_succ]
  refine wpAnyH_take (i := 61) (oi := ?o61_5) (v := ?v61_5) ?ho61_5 (by kernel_rfl) (by kernel_rfl) (by kernel_rfl) ?q61_5 ?y61_5 (by assumption) ?rest61_5
  case ho61_5 => (simp only [List.getElem?_toArray, List.getElem?_cons_succ, List.getElem?_cons_zero]; rfl)
  case q61_5 => exact fun _ _ _ h => h
  case y61_5 => (refine Or.inl ⟨by rfl, ?_⟩; intro w hSw; (try dsimp only at hSw); go_simp; try with_reducible rfl)
  try simp only [Act.put, List.setIfInBounds_toArray, List.set_cons_zero, List.set_cons_succ]
  refine wpAnyH_done (by kernel_rfl) ?_ _

  have HF := Lib.hid hHeld
  clear hHeld
  go_wp2
  go_ret
  exact ⟨rfl, HF.out.1⟩
end Go.Proofs.Ytkbccccjjlkgbaa

/- Layer 12: arrivals, and steps, as arguments. -/
namespace Go.Proofs.Ytkbccccjjlkgbaa
open Go.ChangeShapes Go.WideShapes Go.ChangeAt Go.RowKit
set_option linter.unusedVariables false

/-- A step as it came in. -/
structure Sp where
  kind : Int
  reg : Int
  tick : Int
  x : Int
def Sp4 (w : World) (B o : Nat) (s : Sp) : Prop := w.cell? ⟨B, o, none⟩ = some (.int .i64 s.kind) ∧ w.cell? ⟨B, o + 1, none⟩ = some (.int .i64 s.reg) ∧ w.cell? ⟨B, o + 2, none⟩ = some (.int .u64 s.tick) ∧ w.cell? ⟨B, o + 3, none⟩ = some (.int .u32 s.x)
def IsSps (w : World) (a : Option Addr) (len : Nat) (F : Nat → Sp) : Prop :=
  len ≤ maxLen ∧ (len = 0 ∨ ∃ b off, a = some ⟨b, off, none⟩ ∧ ∀ i, i < len → Sp4 w b (off + i * 4) (F i) ∧ 0 ≤ (F i).x ∧ (F i).x < 4294967296)

theorem list2 {α : Type} {l : List α} (h : l.length = 2) : ∃ c0 c1, l = [c0, c1] := by
  match l, h with
  | [c0, c1], _ => exact ⟨c0, c1, rfl⟩
theorem list4 {α : Type} {l : List α} (h : l.length = 4) : ∃ c0 c1 c2 c3, l = [c0, c1, c2, c3] := by
  match l, h with
  | [c0, c1, c2, c3], _ => exact ⟨c0, c1, c2, c3, rfl⟩

section
variable {H : Type} {enc : TypeId × Value → H} {P : Program} {w : World} {base : Nat} {spare : Nat → Bool} {held : Bool}

theorem open_arrs {t e : TypeId} {f0 f1 : Field} {fuel : Nat} {a : Option Addr} {len cap : Nat} {x : DataW H × List MemPlace} (ht : P.underlying t = some (.slice e)) (hs : P.underlying e = some (.struct #[f0, f1]))
    (ho : #[f0, f1].map (·.offset) = #[0, 1]) (hc : #[f0, f1].map (fun f => P.cellsOf f.type) = #[1, 1]) (hC : P.cellsOf e = 2)
    (u0 : P.underlying f0.type = some (.int .u64)) (u1 : P.underlying f1.type = some (.int .u8))
    (h : DataW.trod enc P w base spare held fuel t [.slice a len cap] = some x) : ∃ T Y, IsArr w a len cap T Y := by
  rcases DataW.trod_slice ht h with ⟨h0, _⟩ | ⟨a', len', cap', elems, rest, n, _, h0, _, hb, hl, hm, hlen, hel, _, _⟩
  · simp at h0
    exact ⟨fun _ => 0, fun _ => 0, by omega, .inl ⟨h0.1, h0.2.1, h0.2.2⟩⟩
  · simp at h0
    obtain ⟨rfl, rfl, rfl⟩ := h0
    by_cases hz : len = 0
    · exact ⟨fun _ => 0, fun _ => 0, by omega, .inr (.inl ⟨hz, _, rfl⟩)⟩
    · obtain ⟨b, off, spot⟩ := a'
      have each : ∀ i, ∃ s : Int × Int, i < len → w.cell? ((⟨b, off, spot⟩ : Addr).add (i * 2)) = some (.int .u64 s.1) ∧ w.cell? (((⟨b, off, spot⟩ : Addr).add (i * 2)).add 1) = some (.int .u8 s.2) := by
        intro i
        by_cases hi : i < len
        · have hy : elems[i]? = some (elems[i]'(by omega)) := List.getElem?_eq_getElem (by omega)
          have hb' := hel i hi
          rw [hy, hC, Option.bind_eq_some_iff] at hb'
          obtain ⟨cs', hcs, hy'⟩ := hb'
          obtain ⟨_, hl5, hcell⟩ := World.cells?_some hcs
          obtain ⟨c0, c1, rfl⟩ := list2 hl5
          obtain ⟨xs, m, _, _, _, hxl, hg⟩ := DataW.trod_struct hs hy'
          simp at ho hc
          obtain ⟨o0, o1⟩ := ho
          obtain ⟨q0, q1⟩ := hc
          have g0 := hg 0 f0 rfl
          have g1 := hg 1 f1 rfl
          have k0 := hcell 0 (by decide)
          have k1 := hcell 1 (by decide)
          match xs, hxl with
          | [y0, y1], _ =>
            simp [o0, q0] at g0
            simp [o1, q1] at g1
            obtain ⟨x0, e0, _, _⟩ := DataW.trod_int u0 g0
            obtain ⟨x1, e1, _, _⟩ := DataW.trod_int u1 g1
            simp at e0 e1
            subst e0 e1
            refine ⟨(x0, x1), fun _ => ⟨?_, ?_⟩⟩
            · rw [show (Addr.add (⟨b, off, spot⟩ : Addr) (i * 2)) = ((⟨b, off, spot⟩ : Addr).add (i * 2)).add 0 from by simp [Addr.add], k0]; rfl
            · rw [k1]; rfl
        · exact ⟨(0, 0), fun h => absurd h hi⟩
      obtain ⟨F, hF⟩ := Classical.skolem.1 each
      have hspot : spot = none := by
        have := World.cell?_spot (hF 0 (by omega)).1
        simpa [Addr.add] using this
      subst hspot
      refine ⟨fun i => (F i).1, fun i => (F i).2, by omega, .inr (.inr ⟨b, off, rfl, fun i hi => ?_⟩)⟩
      obtain ⟨c0, c1⟩ := hF i hi
      simp only [add_plain] at c0 c1
      exact ⟨c0, c1⟩

theorem open_sps {t e : TypeId} {f0 f1 f2 f3 : Field} {fuel : Nat} {a : Option Addr} {len cap : Nat} {x : DataW H × List MemPlace} (ht : P.underlying t = some (.slice e)) (hs : P.underlying e = some (.struct #[f0, f1, f2, f3]))
    (ho : #[f0, f1, f2, f3].map (·.offset) = #[0, 1, 2, 3]) (hc : #[f0, f1, f2, f3].map (fun f => P.cellsOf f.type) = #[1, 1, 1, 1]) (hC : P.cellsOf e = 4)
    (u0 : P.underlying f0.type = some (.int .i64)) (u1 : P.underlying f1.type = some (.int .i64)) (u2 : P.underlying f2.type = some (.int .u64)) (u3 : P.underlying f3.type = some (.int .u32))
    (h : DataW.trod enc P w base spare held fuel t [.slice a len cap] = some x) : ∃ F, IsSps w a len F := by
  rcases DataW.trod_slice ht h with ⟨h0, _⟩ | ⟨a', len', cap', elems, rest, n, _, h0, _, hb, hl, hm, hlen, hel, _, _⟩
  · simp at h0
    exact ⟨fun _ => ⟨0, 0, 0, 0⟩, by omega, .inl h0.2.1⟩
  · simp at h0
    obtain ⟨rfl, rfl, rfl⟩ := h0
    by_cases hz : len = 0
    · exact ⟨fun _ => ⟨0, 0, 0, 0⟩, by omega, .inl hz⟩
    · obtain ⟨b, off, spot⟩ := a'
      have each : ∀ i, ∃ s : Sp, i < len → w.cell? ((⟨b, off, spot⟩ : Addr).add (i * 4)) = some (.int .i64 s.kind) ∧ w.cell? (((⟨b, off, spot⟩ : Addr).add (i * 4)).add 1) = some (.int .i64 s.reg) ∧ w.cell? (((⟨b, off, spot⟩ : Addr).add (i * 4)).add 2) = some (.int .u64 s.tick) ∧ w.cell? (((⟨b, off, spot⟩ : Addr).add (i * 4)).add 3) = some (.int .u32 s.x) ∧ (Lit.int .u32 s.x).wf = true := by
        intro i
        by_cases hi : i < len
        · have hy : elems[i]? = some (elems[i]'(by omega)) := List.getElem?_eq_getElem (by omega)
          have hb' := hel i hi
          rw [hy, hC, Option.bind_eq_some_iff] at hb'
          obtain ⟨cs', hcs, hy'⟩ := hb'
          obtain ⟨_, hl5, hcell⟩ := World.cells?_some hcs
          obtain ⟨c0, c1, c2, c3, rfl⟩ := list4 hl5
          obtain ⟨xs, m, _, _, _, hxl, hg⟩ := DataW.trod_struct hs hy'
          simp at ho hc
          obtain ⟨o0, o1, o2, o3⟩ := ho
          obtain ⟨q0, q1, q2, q3⟩ := hc
          have g0 := hg 0 f0 rfl
          have g1 := hg 1 f1 rfl
          have g2 := hg 2 f2 rfl
          have g3 := hg 3 f3 rfl
          have k0 := hcell 0 (by decide)
          have k1 := hcell 1 (by decide)
          have k2 := hcell 2 (by decide)
          have k3 := hcell 3 (by decide)
          match xs, hxl with
          | [y0, y1, y2, y3], _ =>
            simp [o0, q0] at g0
            simp [o1, q1] at g1
            simp [o2, q2] at g2
            simp [o3, q3] at g3
            obtain ⟨x0, e0, _, _⟩ := DataW.trod_int u0 g0
            obtain ⟨x1, e1, _, _⟩ := DataW.trod_int u1 g1
            obtain ⟨x2, e2, _, _⟩ := DataW.trod_int u2 g2
            obtain ⟨x3, e3, _, w3⟩ := DataW.trod_int u3 g3
            simp at e0 e1 e2 e3
            subst e0 e1 e2 e3
            refine ⟨⟨x0, x1, x2, x3⟩, fun _ => ⟨?_, ?_, ?_, ?_, w3⟩⟩
            · rw [show (Addr.add (⟨b, off, spot⟩ : Addr) (i * 4)) = ((⟨b, off, spot⟩ : Addr).add (i * 4)).add 0 from by simp [Addr.add], k0]; rfl
            · rw [k1]; rfl
            · rw [k2]; rfl
            · rw [k3]; rfl
        · exact ⟨⟨0, 0, 0, 0⟩, fun h => absurd h hi⟩
      obtain ⟨F, hF⟩ := Classical.skolem.1 each
      have hspot : spot = none := by
        have := World.cell?_spot (hF 0 (by omega)).1
        simpa [Addr.add] using this
      subst hspot
      refine ⟨F, by omega, .inr ⟨b, off, rfl, fun i hi => ?_⟩⟩
      obtain ⟨c0, c1, c2, c3, w3⟩ := hF i hi
      simp only [add_plain] at c0 c1 c2 c3
      have hb3 := bounds_u32 w3
      exact ⟨⟨c0, c1, c2, c3⟩, by omega, by omega⟩
end
end Go.Proofs.Ytkbccccjjlkgbaa

/- Layer 14: steps as an argument. -/
namespace Go.Proofs.Ytkbccccjjlkgbaa
open Go.ChangeShapes Go.WideShapes Go.ChangeAt Go.RowKit
set_option linter.unusedVariables false

/-- A step as it came in. -/
structure Sq where
  kind : Int
  ad : Int
  n : Int
  v : Int
  t : Int
def Sq5 (w : World) (B o : Nat) (s : Sq) : Prop := w.cell? ⟨B, o, none⟩ = some (.int .i64 s.kind) ∧ w.cell? ⟨B, o + 1, none⟩ = some (.int .u32 s.ad) ∧ w.cell? ⟨B, o + 2, none⟩ = some (.int .i64 s.n) ∧ w.cell? ⟨B, o + 3, none⟩ = some (.int .u32 s.v) ∧ w.cell? ⟨B, o + 4, none⟩ = some (.int .u64 s.t)
def IsSqs (w : World) (a : Option Addr) (len : Nat) (F : Nat → Sq) : Prop :=
  len ≤ maxLen ∧ (len = 0 ∨ ∃ b off, a = some ⟨b, off, none⟩ ∧ ∀ i, i < len → Sq5 w b (off + i * 5) (F i) ∧ (0 ≤ (F i).ad ∧ (F i).ad < 4294967296) ∧ 0 ≤ (F i).v ∧ (F i).v < 4294967296)

theorem list5 {α : Type} {l : List α} (h : l.length = 5) : ∃ c0 c1 c2 c3 c4, l = [c0, c1, c2, c3, c4] := by
  match l, h with
  | [c0, c1, c2, c3, c4], _ => exact ⟨c0, c1, c2, c3, c4, rfl⟩

section
variable {H : Type} {enc : TypeId × Value → H} {P : Program} {w : World} {base : Nat} {spare : Nat → Bool} {held : Bool}

theorem open_sqs {t e : TypeId} {f0 f1 f2 f3 f4 : Field} {fuel : Nat} {a : Option Addr} {len cap : Nat} {x : DataW H × List MemPlace} (ht : P.underlying t = some (.slice e)) (hs : P.underlying e = some (.struct #[f0, f1, f2, f3, f4]))
    (ho : #[f0, f1, f2, f3, f4].map (·.offset) = #[0, 1, 2, 3, 4]) (hc : #[f0, f1, f2, f3, f4].map (fun f => P.cellsOf f.type) = #[1, 1, 1, 1, 1]) (hC : P.cellsOf e = 5)
    (u0 : P.underlying f0.type = some (.int .i64)) (u1 : P.underlying f1.type = some (.int .u32)) (u2 : P.underlying f2.type = some (.int .i64)) (u3 : P.underlying f3.type = some (.int .u32)) (u4 : P.underlying f4.type = some (.int .u64))
    (h : DataW.trod enc P w base spare held fuel t [.slice a len cap] = some x) : ∃ F, IsSqs w a len F := by
  rcases DataW.trod_slice ht h with ⟨h0, _⟩ | ⟨a', len', cap', elems, rest, n, _, h0, _, hb, hl, hm, hlen, hel, _, _⟩
  · simp at h0
    exact ⟨fun _ => ⟨0, 0, 0, 0, 0⟩, by omega, .inl h0.2.1⟩
  · simp at h0
    obtain ⟨rfl, rfl, rfl⟩ := h0
    by_cases hz : len = 0
    · exact ⟨fun _ => ⟨0, 0, 0, 0, 0⟩, by omega, .inl hz⟩
    · obtain ⟨b, off, spot⟩ := a'
      have each : ∀ i, ∃ s : Sq, i < len → w.cell? ((⟨b, off, spot⟩ : Addr).add (i * 5)) = some (.int .i64 s.kind) ∧ w.cell? (((⟨b, off, spot⟩ : Addr).add (i * 5)).add 1) = some (.int .u32 s.ad) ∧ w.cell? (((⟨b, off, spot⟩ : Addr).add (i * 5)).add 2) = some (.int .i64 s.n) ∧ w.cell? (((⟨b, off, spot⟩ : Addr).add (i * 5)).add 3) = some (.int .u32 s.v) ∧ w.cell? (((⟨b, off, spot⟩ : Addr).add (i * 5)).add 4) = some (.int .u64 s.t) ∧ (Lit.int .u32 s.ad).wf = true ∧ (Lit.int .u32 s.v).wf = true := by
        intro i
        by_cases hi : i < len
        · have hy : elems[i]? = some (elems[i]'(by omega)) := List.getElem?_eq_getElem (by omega)
          have hb' := hel i hi
          rw [hy, hC, Option.bind_eq_some_iff] at hb'
          obtain ⟨cs', hcs, hy'⟩ := hb'
          obtain ⟨_, hl5, hcell⟩ := World.cells?_some hcs
          obtain ⟨c0, c1, c2, c3, c4, rfl⟩ := list5 hl5
          obtain ⟨xs, m, _, _, _, hxl, hg⟩ := DataW.trod_struct hs hy'
          simp at ho hc
          obtain ⟨o0, o1, o2, o3, o4⟩ := ho
          obtain ⟨q0, q1, q2, q3, q4⟩ := hc
          have g0 := hg 0 f0 rfl
          have g1 := hg 1 f1 rfl
          have g2 := hg 2 f2 rfl
          have g3 := hg 3 f3 rfl
          have g4 := hg 4 f4 rfl
          have k0 := hcell 0 (by decide)
          have k1 := hcell 1 (by decide)
          have k2 := hcell 2 (by decide)
          have k3 := hcell 3 (by decide)
          have k4 := hcell 4 (by decide)
          match xs, hxl with
          | [y0, y1, y2, y3, y4], _ =>
            simp [o0, q0] at g0
            simp [o1, q1] at g1
            simp [o2, q2] at g2
            simp [o3, q3] at g3
            simp [o4, q4] at g4
            obtain ⟨x0, e0, _, _⟩ := DataW.trod_int u0 g0
            obtain ⟨x1, e1, _, w1⟩ := DataW.trod_int u1 g1
            obtain ⟨x2, e2, _, _⟩ := DataW.trod_int u2 g2
            obtain ⟨x3, e3, _, w3⟩ := DataW.trod_int u3 g3
            obtain ⟨x4, e4, _, _⟩ := DataW.trod_int u4 g4
            simp at e0 e1 e2 e3 e4
            subst e0 e1 e2 e3 e4
            refine ⟨⟨x0, x1, x2, x3, x4⟩, fun _ => ⟨?_, ?_, ?_, ?_, ?_, w1, w3⟩⟩
            · rw [show (Addr.add (⟨b, off, spot⟩ : Addr) (i * 5)) = ((⟨b, off, spot⟩ : Addr).add (i * 5)).add 0 from by simp [Addr.add], k0]; rfl
            · rw [k1]; rfl
            · rw [k2]; rfl
            · rw [k3]; rfl
            · rw [k4]; rfl
        · exact ⟨⟨0, 0, 0, 0, 0⟩, fun h => absurd h hi⟩
      obtain ⟨F, hF⟩ := Classical.skolem.1 each
      have hspot : spot = none := by
        have := World.cell?_spot (hF 0 (by omega)).1
        simpa [Addr.add] using this
      subst hspot
      refine ⟨F, by omega, .inr ⟨b, off, rfl, fun i hi => ?_⟩⟩
      obtain ⟨c0, c1, c2, c3, c4, w1, w3⟩ := hF i hi
      simp only [add_plain] at c0 c1 c2 c3 c4
      have hb1 := bounds_u32 w1
      have hb3 := bounds_u32 w3
      exact ⟨⟨c0, c1, c2, c3, c4⟩, ⟨by omega, by omega⟩, by omega, by omega⟩
end
end Go.Proofs.Ytkbccccjjlkgbaa

/- Layer 14: what a round of BusPlays keeps. (By gen-busplays.py.) -/
namespace Go.Proofs.Ytkbccccjjlkgbaa
open Go.RowKit
set_option linter.unusedVariables false
set_option linter.unusedSimpArgs false
set_option maxRecDepth 100000

theorem step14_any {B R P C A K : Nat} {S : Nat → Prop} {T Y : Nat → Int} {x : BS} {u : Value} {a : Option Addr} {len cap : Nat} (p : Sq) (c : Nat) (w : World) (hK : K ≤ 1024) (hc : c ≤ 1000) (hp : 0 ≤ p.ad ∧ p.ad < 4294967296) (hv : 0 ≤ p.v ∧ p.v < 4294967296) (hok : BsOk K x c) (hnw : NoW x) (hi : IsBus w B R P C A K S len T Y x) (h : RefB (Fp B R P A S) w u a len cap K x) (hl : len ≤ 256) (ha : IsArr w a len cap T Y) (hna : 0 < len → ∀ ad, a = some ad → ¬ Fp B R P A S ad.block) :
    Calls Try.prog 12 #[.pointer (some ⟨B, 0, none⟩), u, .agg #[.int .i64 p.kind, .int .u32 p.ad, .int .i64 p.n, .int .u32 p.v, .int .u64 p.t]] w fun e w' => ∃ v', e = .returned (.tuple #[v', .bool true]) ∧ StepOut14 w B R P C A K S a len cap T Y c v' w' := by
  obtain ⟨kd, ad, n, v, t⟩ := p
  by_cases h1 : kd = 1
  · subst h1
    by_cases hz : ask14 K ad n = 0
    · exact step14_1ok c ad n v t w hK hc hp.1 hp.2 hv.1 hv.2 hok hnw hi h hz
    · exact step14_1no c ad n v t w hK hc hp.1 hp.2 hv.1 hv.2 hok hnw hi h hz
  · by_cases h2 : kd = 2
    · subst h2
      by_cases hz : ask14 K ad n = 0
      · exact step14_2ok c ad n v t w hK hc hp.1 hp.2 hv.1 hv.2 hok hnw hi h hz
      · exact step14_2no c ad n v t w hK hc hp.1 hp.2 hv.1 hv.2 hok hnw hi h hz
    · by_cases h3 : kd = 3
      · subst h3
        exact step14_3 c ad n v t w hK hc hp.1 hp.2 hv.1 hv.2 hok hnw hi h hl ha hna
      · exact step14_no c kd ad n v t w hK hc hp.1 hp.2 hv.1 hv.2 hok hnw hi h (by simpa using h1) (by simpa using h2) (by simpa using h3)

/-- The cells that a round looks at first: the document's bus, and the step. -/
def PC (Zd bl o : Nat) (c0 c1 c2 c3 c4 c5 c6 c7 c8 c9 c10 : Value) (p : Sq) (W : World) : Prop := BoxB W Zd c0 c1 c2 c3 c4 c5 c6 c7 c8 c9 c10 ∧ Sq5 W bl o p
section
variable {Zd bl o : Nat} {c0 c1 c2 c3 c4 c5 c6 c7 c8 c9 c10 : Value} {p : Sq} {w w' : World}
theorem PC.bar {Q : Nat} (h : PC Zd bl o c0 c1 c2 c3 c4 c5 c6 c7 c8 c9 c10 p w) (hb : Bar Q w w') (h1 : Zd ≠ Q) (h2 : bl ≠ Q) : PC Zd bl o c0 c1 c2 c3 c4 c5 c6 c7 c8 c9 c10 p w' := by
  obtain ⟨h0, e0, e1, e2, e3, e4⟩ := h
  exact ⟨h0.bar hb h1, hb.cell h2 e0, hb.cell h2 e1, hb.cell h2 e2, hb.cell h2 e3, hb.cell h2 e4⟩
theorem PC.fr {S : Nat → Prop} (h : PC Zd bl o c0 c1 c2 c3 c4 c5 c6 c7 c8 c9 c10 p w) (hf : Fr S w w') (h1 : ¬ S Zd) (h2 : ¬ S bl) : PC Zd bl o c0 c1 c2 c3 c4 c5 c6 c7 c8 c9 c10 p w' := by
  obtain ⟨h0, e0, e1, e2, e3, e4⟩ := h
  exact ⟨h0.fr hf h1, hf.cell h2 e0, hf.cell h2 e1, hf.cell h2 e2, hf.cell h2 e3, hf.cell h2 e4⟩
theorem PC.on (h : PC Zd bl o c0 c1 c2 c3 c4 c5 c6 c7 c8 c9 c10 p w) (hb : Below w.heap.size w w') : PC Zd bl o c0 c1 c2 c3 c4 c5 c6 c7 c8 c9 c10 p w' := h.fr (S := fun _ => False) (Fr.of _ hb) id id
end

/-- A row of bytes is no box of a document's bus. -/
theorem no_box {w : World} {Zd q : Nat} {b : Int} {m0 a0 a1 a2 : Option Addr} {ml mc l0 d0 l1 d1 l2 d2 : Nat} {z o m code : Int} {ov sf off : Bool} (hx : BoxB w Zd (.slice m0 ml mc) (.slice a0 l0 d0) (.int .i64 z) (.slice a1 l1 d1) (.bool ov) (.slice a2 l2 d2) (.int .u64 o) (.int .u64 m) (.bool sf) (.bool off) (.int .u32 code)) (hk : w.cell? ⟨Zd, q, none⟩ = some (.int .u8 b)) : False := by
  unfold BoxB at hx
  simp only [World.cell?, hx] at hk
  match q, hk with
  | 0, hk => simp at hk
  | 1, hk => simp at hk
  | 2, hk => simp at hk
  | 3, hk => simp at hk
  | 4, hk => simp at hk
  | 5, hk => simp at hk
  | 6, hk => simp at hk
  | 7, hk => simp at hk
  | 8, hk => simp at hk
  | 9, hk => simp at hk
  | 10, hk => simp at hk
  | q + 11, hk => simp at hk
theorem BsV.boxB {S : Nat → Prop} {Zd : Nat} {w w' : World} {v : Value} {n : Nat} {f : Nat → Int} {m0 a0 a1 a2 : Option Addr} {ml mc l0 d0 l1 d1 l2 d2 : Nat} {z o m code : Int} {ov sf off : Bool} (h : BsV S w v n f) (hx : BoxB w Zd (.slice m0 ml mc) (.slice a0 l0 d0) (.int .i64 z) (.slice a1 l1 d1) (.bool ov) (.slice a2 l2 d2) (.int .u64 o) (.int .u64 m) (.bool sf) (.bool off) (.int .u32 code)) (hb : Bar Zd w w') : BsV S w' v n f := by
  rcases h with h | ⟨b, o, cap, hv, hc, hS, hl, h⟩
  · exact .inl h
  · exact .inr ⟨b, o, cap, hv, hc, hS, Nat.lt_of_lt_of_le hl hb.size, fun i hi => hb.cell (fun e => by subst e; exact no_box hx (h i hi)) (h i hi)⟩
theorem RefB.box {S : Nat → Prop} {Zd : Nat} {w w' : World} {v : Value} {a : Option Addr} {len cap K : Nat} {x : BS} {m0 a0 a1 a2 : Option Addr} {ml mc l0 d0 l1 d1 l2 d2 : Nat} {z o m code : Int} {ov sf off : Bool} (h : RefB S w v a len cap K x) (hx : BoxB w Zd (.slice m0 ml mc) (.slice a0 l0 d0) (.int .i64 z) (.slice a1 l1 d1) (.bool ov) (.slice a2 l2 d2) (.int .u64 o) (.int .u64 m) (.bool sf) (.bool off) (.int .u32 code)) (hb : Bar Zd w w') : RefB S w' v a len cap K x := by
  obtain ⟨mv, rx, out, hv, ⟨Y, c, hmv, hc, hS, hl, h0⟩, h1, h2⟩ := h
  exact ⟨mv, rx, out, hv, ⟨Y, c, hmv, hc, hS, Nat.lt_of_lt_of_le hl hb.size, fun i hi => hb.cell (fun e => by subst e; exact no_box hx (h0 i hi)) (h0 i hi)⟩, h1.boxB hx hb, h2.boxB hx hb⟩

/-- A box filled anew. -/
theorem boxB_set {w : World} {Zd : Nat} {d0 d1 d2 d3 d4 d5 d6 d7 d8 d9 d10 : Value} (c0 c1 c2 c3 c4 c5 c6 c7 c8 c9 c10 : Value) (h : BoxB w Zd d0 d1 d2 d3 d4 d5 d6 d7 d8 d9 d10) : BoxB (((((((((((w.setCell ⟨Zd, 0, none⟩ c0).setCell ⟨Zd, 1, none⟩ c1).setCell ⟨Zd, 2, none⟩ c2).setCell ⟨Zd, 3, none⟩ c3).setCell ⟨Zd, 4, none⟩ c4).setCell ⟨Zd, 5, none⟩ c5).setCell ⟨Zd, 6, none⟩ c6).setCell ⟨Zd, 7, none⟩ c7).setCell ⟨Zd, 8, none⟩ c8).setCell ⟨Zd, 9, none⟩ c9).setCell ⟨Zd, 10, none⟩ c10) Zd c0 c1 c2 c3 c4 c5 c6 c7 c8 c9 c10 := by
  have h0 : BoxB (w.setCell ⟨Zd, 0, none⟩ c0) Zd c0 d1 d2 d3 d4 d5 d6 d7 d8 d9 d10 := heap_setCell_at h
  have h1 : BoxB ((w.setCell ⟨Zd, 0, none⟩ c0).setCell ⟨Zd, 1, none⟩ c1) Zd c0 c1 d2 d3 d4 d5 d6 d7 d8 d9 d10 := heap_setCell_at h0
  have h2 : BoxB (((w.setCell ⟨Zd, 0, none⟩ c0).setCell ⟨Zd, 1, none⟩ c1).setCell ⟨Zd, 2, none⟩ c2) Zd c0 c1 c2 d3 d4 d5 d6 d7 d8 d9 d10 := heap_setCell_at h1
  have h3 : BoxB ((((w.setCell ⟨Zd, 0, none⟩ c0).setCell ⟨Zd, 1, none⟩ c1).setCell ⟨Zd, 2, none⟩ c2).setCell ⟨Zd, 3, none⟩ c3) Zd c0 c1 c2 c3 d4 d5 d6 d7 d8 d9 d10 := heap_setCell_at h2
  have h4 : BoxB (((((w.setCell ⟨Zd, 0, none⟩ c0).setCell ⟨Zd, 1, none⟩ c1).setCell ⟨Zd, 2, none⟩ c2).setCell ⟨Zd, 3, none⟩ c3).setCell ⟨Zd, 4, none⟩ c4) Zd c0 c1 c2 c3 c4 d5 d6 d7 d8 d9 d10 := heap_setCell_at h3
  have h5 : BoxB ((((((w.setCell ⟨Zd, 0, none⟩ c0).setCell ⟨Zd, 1, none⟩ c1).setCell ⟨Zd, 2, none⟩ c2).setCell ⟨Zd, 3, none⟩ c3).setCell ⟨Zd, 4, none⟩ c4).setCell ⟨Zd, 5, none⟩ c5) Zd c0 c1 c2 c3 c4 c5 d6 d7 d8 d9 d10 := heap_setCell_at h4
  have h6 : BoxB (((((((w.setCell ⟨Zd, 0, none⟩ c0).setCell ⟨Zd, 1, none⟩ c1).setCell ⟨Zd, 2, none⟩ c2).setCell ⟨Zd, 3, none⟩ c3).setCell ⟨Zd, 4, none⟩ c4).setCell ⟨Zd, 5, none⟩ c5).setCell ⟨Zd, 6, none⟩ c6) Zd c0 c1 c2 c3 c4 c5 c6 d7 d8 d9 d10 := heap_setCell_at h5
  have h7 : BoxB ((((((((w.setCell ⟨Zd, 0, none⟩ c0).setCell ⟨Zd, 1, none⟩ c1).setCell ⟨Zd, 2, none⟩ c2).setCell ⟨Zd, 3, none⟩ c3).setCell ⟨Zd, 4, none⟩ c4).setCell ⟨Zd, 5, none⟩ c5).setCell ⟨Zd, 6, none⟩ c6).setCell ⟨Zd, 7, none⟩ c7) Zd c0 c1 c2 c3 c4 c5 c6 c7 d8 d9 d10 := heap_setCell_at h6
  have h8 : BoxB (((((((((w.setCell ⟨Zd, 0, none⟩ c0).setCell ⟨Zd, 1, none⟩ c1).setCell ⟨Zd, 2, none⟩ c2).setCell ⟨Zd, 3, none⟩ c3).setCell ⟨Zd, 4, none⟩ c4).setCell ⟨Zd, 5, none⟩ c5).setCell ⟨Zd, 6, none⟩ c6).setCell ⟨Zd, 7, none⟩ c7).setCell ⟨Zd, 8, none⟩ c8) Zd c0 c1 c2 c3 c4 c5 c6 c7 c8 d9 d10 := heap_setCell_at h7
  have h9 : BoxB ((((((((((w.setCell ⟨Zd, 0, none⟩ c0).setCell ⟨Zd, 1, none⟩ c1).setCell ⟨Zd, 2, none⟩ c2).setCell ⟨Zd, 3, none⟩ c3).setCell ⟨Zd, 4, none⟩ c4).setCell ⟨Zd, 5, none⟩ c5).setCell ⟨Zd, 6, none⟩ c6).setCell ⟨Zd, 7, none⟩ c7).setCell ⟨Zd, 8, none⟩ c8).setCell ⟨Zd, 9, none⟩ c9) Zd c0 c1 c2 c3 c4 c5 c6 c7 c8 c9 d10 := heap_setCell_at h8
  have h10 : BoxB (((((((((((w.setCell ⟨Zd, 0, none⟩ c0).setCell ⟨Zd, 1, none⟩ c1).setCell ⟨Zd, 2, none⟩ c2).setCell ⟨Zd, 3, none⟩ c3).setCell ⟨Zd, 4, none⟩ c4).setCell ⟨Zd, 5, none⟩ c5).setCell ⟨Zd, 6, none⟩ c6).setCell ⟨Zd, 7, none⟩ c7).setCell ⟨Zd, 8, none⟩ c8).setCell ⟨Zd, 9, none⟩ c9).setCell ⟨Zd, 10, none⟩ c10) Zd c0 c1 c2 c3 c4 c5 c6 c7 c8 c9 c10 := heap_setCell_at h9
  exact h10
theorem one11 {a oa ra : Option Addr} {len cap K Zm cm rc oc : Nat} {x : BS} : (#[.slice (some ⟨Zm, 0, none⟩) (64 * K) cm, .slice a len cap, .int .i64 (x.s.c : Int), .slice ra x.s.n rc, .bool x.s.ov, .slice oa x.s.m oc, .int .u64 x.o, .int .u64 x.m, .bool x.sf, .bool x.off, .int .u32 x.code] : Array Value).all (·.oneCell') = true := by first | rfl | (simp [Value.oneCell']; done) | decide
/-- What a round keeps. -/
def PG (w : World) (B R P C A K Zd : Nat) (a : Option Addr) (len cap : Nat) (T Y : Nat → Int) (k : Nat) (x : BS) (S : Nat → Prop) (Zm cm : Nat) (ra : Option Addr) (rc : Nat) (oa : Option Addr) (oc : Nat) (W : World) : Prop :=
  BoxB W Zd (.slice (some ⟨Zm, 0, none⟩) (64 * K) cm) (.slice a len cap) (.int .i64 (x.s.c : Int)) (.slice ra x.s.n rc) (.bool x.s.ov) (.slice oa x.s.m oc) (.int .u64 x.o) (.int .u64 x.m) (.bool x.sf) (.bool x.off) (.int .u32 x.code) ∧ IsBus W B R P C A K S len T Y x ∧ RefB (Fp B R P A S) W (.agg #[.slice (some ⟨Zm, 0, none⟩) (64 * K) cm, .slice a len cap, .int .i64 (x.s.c : Int), .slice ra x.s.n rc, .bool x.s.ov, .slice oa x.s.m oc, .int .u64 x.o, .int .u64 x.m, .bool x.sf, .bool x.off, .int .u32 x.code]) a len cap K x ∧ (BsOk K x k ∧ NoW x) ∧ ¬ Fp B R P A S Zd ∧ (∀ q, Fp B R P A S q → w.heap.size ≤ q) ∧ Below w.heap.size w W
theorem PG.on {w : World} {B R P C A K Zd : Nat} {a : Option Addr} {len cap : Nat} {T Y : Nat → Int} {k : Nat} {x : BS} {S : Nat → Prop} {Zm cm : Nat} {ra : Option Addr} {rc : Nat} {oa : Option Addr} {oc : Nat} {W W' : World} (h : PG w B R P C A K Zd a len cap T Y k x S Zm cm ra rc oa oc W) (hb : Below W.heap.size W W') : PG w B R P C A K Zd a len cap T Y k x S Zm cm ra rc oa oc W' := by
  obtain ⟨h1, h2, h3, h4, h5, h6, h7⟩ := h
  exact ⟨h1.on hb, h2.on hb, h3.on hb, h4, h5, h6, h7.trans (hb.mono h7.size)⟩
/-- Behind a step, ahead of the assignment. -/
def PE (w : World) (B R P C A K Zd : Nat) (a : Option Addr) (len cap : Nat) (T Y : Nat → Int) (k : Nat) (x' : BS) (S' : Nat → Prop) (Zm' cm' : Nat) (ra' : Option Addr) (rc' : Nat) (oa' : Option Addr) (oc' : Nat) (c0 c1 c2 c3 c4 c5 c6 c7 c8 c9 c10 : Value) (E : Nat) (W : World) : Prop :=
  BoxB W E (.slice (some ⟨Zm', 0, none⟩) (64 * K) cm') (.slice a len cap) (.int .i64 (x'.s.c : Int)) (.slice ra' x'.s.n rc') (.bool x'.s.ov) (.slice oa' x'.s.m oc') (.int .u64 x'.o) (.int .u64 x'.m) (.bool x'.sf) (.bool x'.off) (.int .u32 x'.code) ∧ BoxB W Zd c0 c1 c2 c3 c4 c5 c6 c7 c8 c9 c10 ∧ E ≠ Zd ∧ IsBus W B R P C A K S' len T Y x' ∧ RefB (Fp B R P A S') W (.agg #[.slice (some ⟨Zm', 0, none⟩) (64 * K) cm', .slice a len cap, .int .i64 (x'.s.c : Int), .slice ra' x'.s.n rc', .bool x'.s.ov, .slice oa' x'.s.m oc', .int .u64 x'.o, .int .u64 x'.m, .bool x'.sf, .bool x'.off, .int .u32 x'.code]) a len cap K x' ∧ (BsOk K x' k ∧ NoW x') ∧ ¬ Fp B R P A S' Zd ∧ (∀ q, Fp B R P A S' q → w.heap.size ≤ q) ∧ Below w.heap.size w W
theorem PE.fin {w : World} {B R P C A K Zd : Nat} {a : Option Addr} {len cap : Nat} {T Y : Nat → Int} {k : Nat} {x' : BS} {S' : Nat → Prop} {Zm' cm' : Nat} {ra' : Option Addr} {rc' : Nat} {oa' : Option Addr} {oc' : Nat} {m0 a0 a1 a2 : Option Addr} {ml mc l0 d0 l1 d1 l2 d2 : Nat} {z o m code : Int} {ov sf off : Bool} {E : Nat} {W : World} (h : PE w B R P C A K Zd a len cap T Y k x' S' Zm' cm' ra' rc' oa' oc' (.slice m0 ml mc) (.slice a0 l0 d0) (.int .i64 z) (.slice a1 l1 d1) (.bool ov) (.slice a2 l2 d2) (.int .u64 o) (.int .u64 m) (.bool sf) (.bool off) (.int .u32 code) E W) (hA : w.heap.size ≤ Zd) :
    PG w B R P C A K Zd a len cap T Y k x' S' Zm' cm' ra' rc' oa' oc' (W.setRow Zd #[.slice (some ⟨Zm', 0, none⟩) (64 * K) cm', .slice a len cap, .int .i64 (x'.s.c : Int), .slice ra' x'.s.n rc', .bool x'.s.ov, .slice oa' x'.s.m oc', .int .u64 x'.o, .int .u64 x'.m, .bool x'.sf, .bool x'.off, .int .u32 x'.code]) := by
  obtain ⟨h1, h2, h3, h4, h5, h6, h7, h8, h9⟩ := h
  have hb := Bar.setRow Zd W #[.slice (some ⟨Zm', 0, none⟩) (64 * K) cm', .slice a len cap, .int .i64 (x'.s.c : Int), .slice ra' x'.s.n rc', .bool x'.s.ov, .slice oa' x'.s.m oc', .int .u64 x'.o, .int .u64 x'.m, .bool x'.sf, .bool x'.off, .int .u32 x'.code]
  exact ⟨setRow_heap _ _ _ _ _ _ h2, h4.bar hb h7, h5.box h2 hb, h6, h7, h8, h9.trans (hb.below hA h9.size)⟩

/-- Rows of noughts; the values that the bus begins with. -/
def RZ (base n : Nat) (u : Value) (w : World) : Prop := ∃ B c, u = .slice (some ⟨B, 0, none⟩) n c ∧ n ≤ c ∧ base ≤ B ∧ B < w.heap.size ∧ RowB w B n (fun _ => 0)
theorem RZ.on {base n : Nat} {u : Value} {w w' : World} (h : RZ base n u w) (hb : Below w.heap.size w w') : RZ base n u w' := by
  obtain ⟨B, c, h1, h2, h3, h4, h5⟩ := h
  exact ⟨B, c, h1, h2, h3, Nat.lt_of_lt_of_le h4 hb.size, h5.on hb⟩
abbrev maxT : Value := .agg #[.int .u64 0, .int .u64 18446744073709551615, .bool false]
abbrev bus0 (mv : Value) (a : Option Addr) (len cap : Nat) : Value := .agg #[mv, .slice a len cap, .int .i64 0, .slice none 0 0, .bool false, .slice none 0 0, .int .u64 0, .int .u64 18446744073709551615, .bool false, .bool false, .int .u32 0]
def plR (base K : Nat) (a : Option Addr) (len cap : Nat) : Nat → Value → World → Prop
  | 1, u, w => RZ base (64 * K) u w
  | 4, u, w => u = maxT
  | 5, u, w => ∃ mv, u = bus0 mv a len cap ∧ RZ base (64 * K) mv w
  | 6, u, w => ∃ E, u = .pointer (some ⟨E, 0, none⟩) ∧ base ≤ E ∧ BoxB w E (.slice none 0 0) (.slice none 0 0) (.int .i64 0) (.slice none 0 0) (.bool false) (.slice none 0 0) (.int .u64 0) (.int .u64 0) (.bool false) (.bool false) (.int .u32 0)
  | _, _, _ => True
theorem plR_on {base K k : Nat} {a : Option Addr} {len cap : Nat} {u : Value} {w w' : World} (hb : Below w.heap.size w w') (h : plR base K a len cap k u w) : plR base K a len cap k u w' := by
  unfold plR at *
  split at h
  · exact h.on hb
  · exact h
  · obtain ⟨mv, h1, h2⟩ := h
    exact ⟨mv, h1, h2.on hb⟩
  · obtain ⟨E, h1, h2, h3⟩ := h
    exact ⟨E, h1, h2, h3.on hb⟩
  · trivial
theorem rz_made {w : World} {K : Nat} {base : Nat} (h : base ≤ w.heap.size) : RZ base (64 * K) (.slice (some ⟨w.heap.size, 0, none⟩) (64 * K) (64 * K)) (w.alloc (.cells (madeCells (Value.int .u8 0).cells (64 * K)) 5)) := by
  refine ⟨_, _, rfl, Nat.le_refl _, h, by simp, fun i hi => ?_⟩
  rw [World.cell?_alloc_at _ _ _ _ rfl]
  refine made_at hi ?_
  have e : (Value.int .u8 0).cells = #[.int .u8 0] := rfl
  rw [e]
  simp [Nat.mod_one]
/-- The state that both begin with. -/
theorem pg_start {w w1 wE : World} {B R P C A K Zd : Nat} {S : Nat → Prop} {a : Option Addr} {len cap : Nat} {T Y : Nat → Int} {B1 c1 : Nat} (hi : IsBus w1 B R P C A K S len T Y BS.new) (hF : ∀ q, Fp B R P A S q → w.heap.size ≤ q) (hb : Below w.heap.size w w1) (hE : Below w1.heap.size w1 wE)
    (hr : RZ w1.heap.size (64 * K) (.slice (some ⟨B1, 0, none⟩) (64 * K) c1) wE) (hZ : w1.heap.size ≤ Zd) (hx : BoxB wE Zd (.slice none 0 0) (.slice none 0 0) (.int .i64 0) (.slice none 0 0) (.bool false) (.slice none 0 0) (.int .u64 0) (.int .u64 0) (.bool false) (.bool false) (.int .u32 0)) :
    PG w B R P C A K Zd a len cap T Y 0 BS.new S B1 c1 none 0 none 0 (((((((((((wE.setCell ⟨Zd, 0, none⟩ (.slice (some ⟨B1, 0, none⟩) (64 * K) c1)).setCell ⟨Zd, 1, none⟩ (.slice a len cap)).setCell ⟨Zd, 2, none⟩ (.int .i64 0)).setCell ⟨Zd, 3, none⟩ (.slice none 0 0)).setCell ⟨Zd, 4, none⟩ (.bool false)).setCell ⟨Zd, 5, none⟩ (.slice none 0 0)).setCell ⟨Zd, 6, none⟩ (.int .u64 0)).setCell ⟨Zd, 7, none⟩ (.int .u64 18446744073709551615)).setCell ⟨Zd, 8, none⟩ (.bool false)).setCell ⟨Zd, 9, none⟩ (.bool false)).setCell ⟨Zd, 10, none⟩ (.int .u32 0)) := by
  have hb2 := bar11 Zd wE (.slice (some ⟨B1, 0, none⟩) (64 * K) c1) (.slice a len cap) (.int .i64 0) (.slice none 0 0) (.bool false) (.slice none 0 0) (.int .u64 0) (.int .u64 18446744073709551615) (.bool false) (.bool false) (.int .u32 0)
  have hn : ¬ Fp B R P A S Zd := fun e => by have := hi.lt _ e; omega
  obtain ⟨B2, c2, e, h1, h2, h3, h4⟩ := hr
  simp at e
  obtain ⟨rfl, rfl⟩ := e
  have hbw : Below w.heap.size w wE := hb.trans (hE.mono hb.size)
  refine ⟨boxB_set _ _ _ _ _ _ _ _ _ _ _ hx, (hi.on hE).bar hb2 hn, ?_, ⟨BsOk.new, NoW.new⟩, hn, hF, hbw.trans (hb2.below (Nat.le_trans hb.size hZ) hbw.size)⟩
  refine RefB.box ?_ hx hb2
  exact refB_of BS.new ⟨B1, c1, rfl, h1, fun e => by have := hi.lt _ e; omega, h3, h4⟩ (.inl ⟨rfl, rfl⟩) (.inl ⟨rfl, rfl⟩)
end Go.Proofs.Ytkbccccjjlkgbaa
