/- A region that draws its order: operations that each make memory of their own, whatever order they come in, by one contract each. -/
import Derived.Test.YtcigceaadkjenaaDoorRows
import Derived.Test.YtcigceaadkjenaaDoorPhase
import Derived.Below
namespace Go.Proofs.YtcigceaadkjenaaDoor
open Go Go.RowKit
set_option linter.unusedVariables false
set_option linter.unusedSimpArgs false

/-- Where an operation of the region leaves its value. -/
def slotAt (ops : Array Oper) (k : Nat) : Option Tmp := (ops[k]?).bind (·.dst)
/-- The values of those operations of M that have come up. -/
def putSel (ops : Array Oper) (L : Nat → Bool) (v : Nat → Value) : List Nat → Act → Act
  | [], a => a
  | k :: M, a => putSel ops L v M (if L k then a.put (slotAt ops k) (v k) else a)
/-- An operation leaves a value, and K holds of it and of the world behind. -/
def Does (P : Program) (o : Oper) (ev : Operand → Value) (w : World) (K : Value → World → Prop) : Prop :=
  match (execOp ev o).run P w with
  | .ok (.value u) w' => K u w'
  | .ok (.enter f args) w' => Calls P f args w' fun e w'' => ∃ u, e = .returned u ∧ K u w''
  | _ => False

theorem does_of {P : Program} {o : Oper} {ev : Operand → Value} {w : World} {K : Value → World → Prop} {u : Value} {w' : World} (h : (execOp ev o).run P w = .ok (.value u) w') (k : K u w') : Does P o ev w K := by
  unfold Does; rw [h]; exact k
theorem does_call {P : Program} {o : Oper} {ev : Operand → Value} {w w0 : World} {K : Value → World → Prop} {f : FuncId} {args : Array Value} (h : (execOp ev o).run P w = .ok (.enter f args) w0) (k : Calls P f args w0 fun e w'' => ∃ u, e = .returned u ∧ K u w'') : Does P o ev w K := by
  unfold Does; rw [h]; exact k

theorem Does.wp {P : Program} {o : Oper} {a : Act} {w : World} {K : Value → World → Prop} {next : Act → World → Prop} {Q : Exit → Act → World → Prop} (h : Does P o a.eval w K) (hn : ∀ u w', K u w' → next (a.put o.dst u) w') : o.wp P a w next Q := by
  unfold Does at h
  unfold Oper.wp
  generalize (execOp a.eval o).run P w = r at *
  cases r with
  | halt x w' => cases x <;> exact absurd h (by simp)
  | ok n w' =>
    cases n <;> simp only [Oper.upon] at h ⊢
    case value u => exact hn _ _ h
    case enter f args =>
      refine Calls.mono h fun e w'' he => ?_
      obtain ⟨u, rfl, hk⟩ := he
      exact hn _ _ hk

theorem putSel_same {ops : Array Oper} {L L' : Nat → Bool} {v v' : Nat → Value} : ∀ {M : List Nat} {a : Act}, (∀ k, k ∈ M → L k = L' k ∧ (L k = true → v k = v' k)) → putSel ops L v M a = putSel ops L' v' M a
  | [], _, _ => rfl
  | k :: M, a, h => by
    have hk := h k (by simp)
    have ih : ∀ a, putSel ops L v M a = putSel ops L' v' M a := fun a => putSel_same (fun j hj => h j (by simp [hj]))
    unfold putSel
    rw [ih, ← hk.1]
    by_cases c : L k = true
    · rw [if_pos c, if_pos c, hk.2 c]
    · rw [if_neg c, if_neg c]

theorem putSel_put {ops : Array Oper} {L : Nat → Bool} {v : Nat → Value} {d : Option Tmp} {u : Value} : ∀ {M : List Nat} {a : Act}, (∀ k, k ∈ M → ∀ t, slotAt ops k = some t → d ≠ some t) → (putSel ops L v M a).put d u = putSel ops L v M (a.put d u)
  | [], _, _ => rfl
  | k :: M, a, h => by
    have ih := fun a => putSel_put (ops := ops) (L := L) (v := v) (d := d) (u := u) (M := M) (a := a) (fun j hj => h j (by simp [hj]))
    unfold putSel
    rw [ih]
    by_cases c : L k = true
    · rw [if_pos c, if_pos c, Act.put_comm a (v k) u (fun t ht => h k (by simp) t ht)]
    · rw [if_neg c, if_neg c]

def updB (L : Nat → Bool) (i : Nat) : Nat → Bool := fun k => k == i || L k
def updV (v : Nat → Value) (i : Nat) (u : Value) : Nat → Value := fun k => if k = i then u else v k

theorem putSel_upd {ops : Array Oper} {L : Nat → Bool} {v : Nat → Value} {i : Nat} {u : Value} (hL : L i = false) : ∀ {M : List Nat} {a : Act}, M.Nodup → (∀ j, j ∈ M → ∀ k, k ∈ M → j ≠ k → ∀ t, slotAt ops j = some t → slotAt ops k ≠ some t) → i ∈ M →
    (putSel ops L v M a).put (slotAt ops i) u = putSel ops (updB L i) (updV v i u) M a
  | [], _, _, _, hi => absurd hi (by simp)
  | k :: M, a, hn, hd, hi => by
    have hn' := List.nodup_cons.1 hn
    by_cases c : k = i
    · subst c
      unfold putSel
      rw [if_neg (by simp [hL]), if_pos (by simp [updB]), putSel_put (fun j hj t ht => hd j (by simp [hj]) k (by simp) (fun e => hn'.1 (e ▸ hj)) t ht)]
      rw [show updV v k u k = u from by simp [updV]]
      exact putSel_same fun j hj => by
        have hne : j ≠ k := fun e => hn'.1 (e ▸ hj)
        exact ⟨by simp [updB, hne], fun _ => by simp [updV, hne]⟩
    · have hi' : i ∈ M := by
        rcases List.mem_cons.1 hi with e | e
        · exact absurd e.symm c
        · exact e
      unfold putSel
      rw [putSel_upd hL hn'.2 (fun j hj k hk => hd j (by simp [hj]) k (by simp [hk])) hi']
      congr 1
      by_cases q : L k = true
      · rw [if_pos q, if_pos (by simp [updB, q]), show updV v i u k = v k from by simp [updV, c]]
      · rw [if_neg q, if_neg (by simp [updB, q, c])]

theorem put_size (a : Act) (d : Option Tmp) (u : Value) : (a.put d u).tmps.size = a.tmps.size := by
  cases d <;> simp [Act.put]

/-- A temporary that no operation of M fills. -/
theorem putSel_old {ops : Array Oper} {L : Nat → Bool} {v : Nat → Value} {t : Tmp} : ∀ {M : List Nat} {a : Act}, (∀ k, k ∈ M → slotAt ops k ≠ some t) → (putSel ops L v M a).eval (.tmp t) = a.eval (.tmp t)
  | [], _, _ => rfl
  | k :: M, a, h => by
    unfold putSel
    rw [putSel_old (fun j hj => h j (by simp [hj]))]
    by_cases c : L k = true
    · rw [if_pos c]
      exact Act.eval_put fun d hd e => by
        injection e with e; subst e; exact h k (by simp) hd
    · rw [if_neg c]

/-- A temporary that an operation of M that has come up fills. -/
theorem putSel_new {ops : Array Oper} {L : Nat → Bool} {v : Nat → Value} {t : Tmp} {i : Nat} (hL : L i = true) (ht : slotAt ops i = some t) : ∀ {M : List Nat} {a : Act}, t < a.tmps.size → M.Nodup → (∀ j, j ∈ M → ∀ k, k ∈ M → j ≠ k → ∀ t, slotAt ops j = some t → slotAt ops k ≠ some t) → i ∈ M →
    (putSel ops L v M a).eval (.tmp t) = v i
  | [], _, _, _, _, hi => absurd hi (by simp)
  | k :: M, a, hs, hn, hd, hi => by
    have hn' := List.nodup_cons.1 hn
    unfold putSel
    by_cases c : k = i
    · subst c
      rw [if_pos hL, putSel_old (fun j hj => fun e => hd j (by simp [hj]) k (by simp) (fun e => hn'.1 (e ▸ hj)) t e ht), ht]
      simp [Act.eval, Act.put, hs]
    · have hi' : i ∈ M := by
        rcases List.mem_cons.1 hi with e | e
        · exact absurd e.symm c
        · exact e
      refine putSel_new hL ht ?_ hn'.2 (fun j hj k hk => hd j (by simp [hj]) k (by simp [hk])) hi'
      by_cases q : L k = true
      · rw [if_pos q, put_size]; exact hs
      · rw [if_neg q]; exact hs

theorem putSel_const (a : Act) (ops : Array Oper) (L : Nat → Bool) (v : Nat → Value) (M : List Nat) (x : Operand) (h : ∀ t, x ≠ .tmp t) : (putSel ops L v M a).eval x = a.eval x := by
  cases x with
  | tmp t => exact absurd rfl (h t)
  | _ => rfl

/-- j comes after m, if need be by others of M. -/
def reachB (md : Region.Mode) (ops : Array Oper) (M : List Nat) : Nat → Nat → Nat → Bool
  | 0, j, m => match ops[j]? with
    | none => false
    | some o => o.after.any fun e => Region.binds md e && e.on == m
  | n + 1, j, m => match ops[j]? with
    | none => false
    | some o => o.after.any fun e => Region.binds md e && (e.on == m || (M.contains e.on && reachB md ops M n e.on m))

/-- j comes after something that is neither listed nor of M. -/
def blockB (md : Region.Mode) (ops : Array Oper) (listed : Array Bool) (M : List Nat) (j : Nat) : Bool := match ops[j]? with
  | none => false
  | some o => o.after.any fun e => Region.binds md e && (listed.getD e.on true == false && !M.contains e.on)

/-- What the region's text must show of the operations M. -/
def phaseOk (md : Region.Mode) (ops : Array Oper) (listed : Array Bool) (M : List Nat) (n : Nat) : Bool :=
  listed.size == ops.size && decide (M.Nodup) &&
  M.all (fun k => listed.getD k true == false && match ops[k]? with
    | none => false
    | some o => o.guard == none && (match o.dst with | some t => decide (t < n) | none => false) && o.after.all (fun e => !Region.binds md e || listed.getD e.on false || (M.contains e.on && decide (e.on < k)))) &&
  M.all (fun j => M.all fun k => j == k || slotAt ops j != slotAt ops k) &&
  (List.range ops.size).all (fun j => listed.getD j true || M.contains j || blockB md ops listed M j || M.all fun m => reachB md ops M 2 j m)

theorem left_upd {L : Nat → Bool} {i : Nat} (hL : L i = false) : ∀ {M : List Nat} {m : Nat}, M.Nodup → i ∈ M → (M.filter fun k => !L k).length = m + 1 → (M.filter fun k => !updB L i k).length = m
  | [], _, _, hi, _ => absurd hi (by simp)
  | k :: M, m, hn, hi, h => by
    have hn' := List.nodup_cons.1 hn
    by_cases c : k = i
    · subst c
      rw [List.filter_cons, if_pos (by simp [hL])] at h
      rw [List.filter_cons, if_neg (by simp [updB])]
      have e : M.filter (fun j => !updB L k j) = M.filter (fun j => !L j) := by
        refine List.filter_congr fun j hj => ?_
        have hne : j ≠ k := fun e => hn'.1 (e ▸ hj)
        simp [updB, hne]
      rw [e]; simpa using h
    · have hi' : i ∈ M := by
        rcases List.mem_cons.1 hi with e | e
        · exact absurd e.symm c
        · exact e
      by_cases q : L k = true
      · rw [List.filter_cons, if_neg (by simp [q])] at h
        rw [List.filter_cons, if_neg (by simp [updB, q])]
        exact left_upd hL hn'.2 hi' h
      · rw [List.filter_cons, if_pos (by simp [q])] at h
        rw [List.filter_cons, if_pos (by simp [updB, q, c])]
        match m, h with
        | 0, h =>
          have hf : i ∈ M.filter fun k => !L k := List.mem_filter.2 ⟨hi', by simp [hL]⟩
          have h0 : (M.filter fun k => !L k) = [] := List.eq_nil_of_length_eq_zero (by simpa using h)
          rw [h0] at hf
          exact absurd hf (by simp)
        | m + 1, h => simp [left_upd hL hn'.2 hi' (by simpa using h)]

/-- The operations M come up in whatever order: each by its own contract. R k u w: what operation k has left, u, in the world w; what it says of memory is borne by all that only makes memory. -/
theorem wpAnyH_each {P : Program} {md : Region.Mode} {ops : Array Oper} {Q : Exit → Act → World → Prop} {S : World → Prop} {a : Act} {w : World} {listed : Array Bool} {fuel f0 : Nat} (M : List Nat) (R : Nat → Value → World → Prop)
    (hf : f0 = fuel + M.length) (hok : phaseOk md ops listed M a.tmps.size = true) (hS : ∀ w1, Below w.heap.size w w1 → S w1)
    (stable : ∀ k u w1 w2, Below w1.heap.size w1 w2 → R k u w1 → R k u w2)
    (step : ∀ i, i ∈ M → ∀ o, ops[i]? = some o → ∀ (ev : Operand → Value) w1, Below w.heap.size w w1 → (∀ x, (∀ t, x ≠ .tmp t) → ev x = a.eval x) → (∀ t, (∀ k, k ∈ M → slotAt ops k ≠ some t) → ev (.tmp t) = a.eval (.tmp t)) →
      (∀ e, e ∈ o.after → Region.binds md e = true → e.on ∈ M → ∀ t, slotAt ops e.on = some t → R e.on (ev (.tmp t)) w1) → Does P o ev w1 fun u w2 => Below w1.heap.size w1 w2 ∧ R i u w2)
    (next : ∀ v w1, Below w.heap.size w w1 → (∀ k, k ∈ M → R k (v k) w1) → wpAnyH P md ops Q S fuel (M.foldl (fun l k => l.setIfInBounds k true) listed) (putSel ops (fun _ => true) v M a) w1) :
    wpAnyH P md ops Q S f0 listed a w := by
  simp only [phaseOk, Bool.and_eq_true, decide_eq_true_eq, beq_iff_eq] at hok
  obtain ⟨⟨⟨⟨hsz, hnd⟩, hM⟩, hdd⟩, hO⟩ := hok
  have hd : ∀ j, j ∈ M → ∀ k, k ∈ M → j ≠ k → ∀ t, slotAt ops j = some t → slotAt ops k ≠ some t := fun j hj k hk hne t ht e => by
    have h1 := List.all_eq_true.1 (List.all_eq_true.1 hdd j hj) k hk
    simp [hne, ht, e] at h1
  have key : ∀ (m : Nat) (L : Nat → Bool) (v : Nat → Value) (l1 : Array Bool) (w1 : World), (M.filter fun k => !L k).length = m → l1.size = listed.size → (∀ j d, j < listed.size → l1.getD j d = (listed.getD j d || (M.contains j && L j))) → Below w.heap.size w w1 →
      (∀ k, k ∈ M → L k = true → ∀ o, ops[k]? = some o → ∀ e, e ∈ o.after → Region.binds md e = true → e.on ∈ M → L e.on = true) →
      (∀ k, k ∈ M → L k = true → R k (v k) w1) → wpAnyH P md ops Q S (fuel + m) l1 (putSel ops L v M a) w1 := by
    intro m
    induction m with
    | zero =>
      intro L v l1 w1 hm hl1 hget hb hcl hR
      have hall : ∀ k, k ∈ M → L k = true := fun k hk => by
        have h0 : (M.filter fun k => !L k) = [] := List.eq_nil_of_length_eq_zero hm
        cases q : L k
        · have : k ∈ M.filter fun k => !L k := List.mem_filter.2 ⟨hk, by simp [q]⟩
          rw [h0] at this; exact absurd this (by simp)
        · rfl
      have e1 : l1 = M.foldl (fun l k => l.setIfInBounds k true) listed := by
        have hfold : ∀ (N : List Nat) (l : Array Bool), (N.foldl (fun l k => l.setIfInBounds k true) l).size = l.size ∧ ∀ j, j < l.size → (N.foldl (fun l k => l.setIfInBounds k true) l).getD j true = (l.getD j true || N.contains j) := by
          intro N
          induction N with
          | nil => intro l; simp
          | cons k N ih =>
            intro l
            obtain ⟨i1, i2⟩ := ih (l.setIfInBounds k true)
            refine ⟨by simpa using i1, fun j hj => ?_⟩
            rw [List.foldl_cons, i2 j (by simpa using hj)]
            by_cases c : k = j
            · subst c; simp [hj]
            · rw [getD_set_ne true c]
              simp [List.contains_cons, Ne.symm c]
        obtain ⟨f1, f2⟩ := hfold M listed
        refine Array.ext (by rw [hl1, f1]) fun j h1 h2 => ?_
        have hj : j < listed.size := by omega
        have g1 := hget j true hj
        have g2 := f2 j hj
        have : (M.contains j && L j) = M.contains j := by
          by_cases c : j ∈ M
          · simp [c, hall j c]
          · simp [c]
        rw [this, ← g2] at g1
        simpa [Array.getD, h1, h2] using g1
      have e2 : putSel ops L v M a = putSel ops (fun _ => true) v M a := putSel_same fun k hk => ⟨hall k hk, fun _ => rfl⟩
      rw [e1, e2]
      exact next v w1 hb fun k hk => hR k hk (hall k hk)
    | succ m ih =>
      intro L v l1 w1 hm hl1 hget hb hcl hR
      have hop : ∀ k, k ∈ M → ∃ o, ops[k]? = some o ∧ listed.getD k true = false ∧ o.guard = none ∧ (∃ t, o.dst = some t ∧ t < a.tmps.size) ∧ ∀ e, e ∈ o.after → Region.binds md e = true → listed.getD e.on false = true ∨ (e.on ∈ M ∧ e.on < k) := fun k hk => by
        have h1 := List.all_eq_true.1 hM k hk
        simp only [Bool.and_eq_true, beq_iff_eq] at h1
        obtain ⟨h0, h1⟩ := h1
        cases ho : ops[k]? with
        | none => rw [ho] at h1; simp at h1
        | some o =>
          rw [ho] at h1
          simp only [Bool.and_eq_true] at h1
          obtain ⟨⟨g1, g2⟩, g3⟩ := h1
          refine ⟨o, rfl, h0, by cases hg : o.guard <;> simp_all, ?_, fun e he hbd => ?_⟩
          · cases hdst : o.dst with
            | none => rw [hdst] at g2; simp at g2
            | some t => rw [hdst] at g2; exact ⟨t, rfl, by simpa using g2⟩
          · have := Array.all_eq_true_iff_forall_mem.1 g3 e he
            simp only [hbd, Bool.not_true, Bool.false_or, Bool.or_eq_true, Bool.and_eq_true, decide_eq_true_eq, List.contains_iff_mem] at this
            exact this
      have hlt : ∀ k, k ∈ M → k < listed.size := fun k hk => by
        obtain ⟨o, ho, _⟩ := hop k hk
        rw [hsz]; exact (Array.getElem?_eq_some_iff.1 ho).1
      have hltE : ∀ j, listed.getD j false = true → j < listed.size := fun j hj => by
        rcases Nat.lt_or_ge j listed.size with h | h
        · exact h
        · simp [Array.getElem?_eq_none h] at hj
      refine ⟨fun hno => ?_, fun i hi => ?_⟩
      · exfalso
        have hall : ∀ n, ∀ k, k < n → k ∈ M → L k = true := by
          intro n
          induction n with
          | zero => intro k hk; omega
          | succ n ihn =>
            intro k hk hkM
            cases q : L k
            · obtain ⟨o, ho, hu, _, _, haft⟩ := hop k hkM
              have hr : k ∈ Region.ready md ops l1 := by
                refine mem_ready.2 ⟨?_, o, ho, fun e he hbd => ?_⟩
                · rw [hget k true (hlt k hkM), hu, q]; simp
                · rcases haft e he hbd with h | ⟨h1, h2⟩
                  · rw [hget _ false (hltE _ h), h]; simp
                  · rw [hget _ false (hlt _ h1), ihn e.on (by omega) h1]; simp [h1]
              rw [hno] at hr; exact absurd hr (by simp)
            · rfl
        have h0 : (M.filter fun k => !L k) = [] := List.filter_eq_nil_iff.2 fun k hk => by simp [hall (k + 1) k (by omega) hk]
        rw [h0] at hm; simp at hm
      · obtain ⟨hun, o, ho, hafter⟩ := mem_ready.1 hi
        have hL : ∀ e, e ∈ o.after → Region.binds md e = true → e.on ∈ M → L e.on = true := fun e he hbd heM => by
          have h4 := hafter e he hbd
          rw [hget e.on false (hlt _ heM)] at h4
          obtain ⟨_, _, hu, _⟩ := hop _ heM
          have hu' : listed.getD e.on false = false := by
            have := hlt _ heM
            simpa [Array.getD, this] using hu
          rw [hu'] at h4
          simp at h4
          exact h4.2
        have hreach : ∀ (n j : Nat) (oj : Oper) (m' : Nat), ops[j]? = some oj → (∀ e, e ∈ oj.after → Region.binds md e = true → e.on ∈ M → L e.on = true) → m' ∈ M → reachB md ops M n j m' = true → L m' = true := by
          intro n
          induction n with
          | zero =>
            intro j oj m' hj hl hm' hr
            unfold reachB at hr
            rw [hj] at hr
            obtain ⟨e, he, h3⟩ := Array.any_eq_true'.1 hr
            simp only [Bool.and_eq_true, beq_iff_eq] at h3
            have := hl e he h3.1 (by rw [h3.2]; exact hm')
            rwa [h3.2] at this
          | succ n ihn =>
            intro j oj m' hj hl hm' hr
            unfold reachB at hr
            rw [hj] at hr
            obtain ⟨e, he, h3⟩ := Array.any_eq_true'.1 hr
            simp only [Bool.and_eq_true, Bool.or_eq_true, beq_iff_eq, List.contains_iff_mem] at h3
            rcases h3.2 with h5 | ⟨h5, h6⟩
            · have := hl e he h3.1 (by rw [h5]; exact hm')
              rwa [h5] at this
            · obtain ⟨oe, hoe, _⟩ := hop _ h5
              exact ihn e.on oe m' hoe (hcl _ h5 (hl e he h3.1 h5) oe hoe) hm' h6
        have hio : i < listed.size := by rw [hsz]; exact (Array.getElem?_eq_some_iff.1 ho).1
        rw [hget i true hio] at hun
        simp only [Bool.or_eq_false_iff] at hun
        have hiM : i ∈ M := by
          have h1 := List.all_eq_true.1 hO i (List.mem_range.2 (by omega))
          simp only [hun.1, Bool.false_or, Bool.or_eq_true, List.contains_iff_mem, ho] at h1
          rcases h1 with (h1 | h1) | h1
          · exact h1
          · exfalso
            unfold blockB at h1
            rw [ho] at h1
            obtain ⟨e, he, h3⟩ := Array.any_eq_true'.1 h1
            simp only [Bool.and_eq_true, beq_iff_eq, Bool.not_eq_true'] at h3
            have hl5 : e.on < listed.size := by
              rcases Nat.lt_or_ge e.on listed.size with h | h
              · exact h
              · have := h3.2.1
                simp [Array.getElem?_eq_none h] at this
            have h4 := hafter e he h3.1
            rw [hget e.on false hl5] at h4
            have h6 : listed.getD e.on false = false := by
              have := h3.2.1
              simpa [Array.getD, hl5] using this
            rw [h6, h3.2.2] at h4
            simp at h4
          · exfalso
            have h0 : (M.filter fun k => !L k) = [] := List.filter_eq_nil_iff.2 fun k hk => by
              have h2 := List.all_eq_true.1 h1 k hk
              have := hreach 2 i o k ho hL hk h2
              simp [this]
            rw [h0] at hm; simp at hm
        have hLi : L i = false := by
          have := hun.2
          simpa [hiM] using this
        obtain ⟨o', ho', _, hgd, ⟨t, hdst, hts⟩, haft⟩ := hop i hiM
        obtain rfl : o' = o := Option.some.inj (ho'.symm.trans ho)
        have hslot : slotAt ops i = some t := by simp [slotAt, ho, hdst]
        have hdoes := step i hiM o' ho (putSel ops L v M a).eval w1 hb (fun x hx => putSel_const a ops L v M x hx) (fun t ht => putSel_old ht) (fun e he hbd heM t ht => by
          have h1 := hafter e he hbd
          rw [hget _ false (hlt _ heM)] at h1
          obtain ⟨oe, hoe, hu, _, ⟨te, hte, htes⟩, _⟩ := hop _ heM
          have hu' : listed.getD e.on false = false := by
            have := hlt _ heM
            simpa [Array.getD, this] using hu
          rw [hu'] at h1
          simp only [Bool.false_or, Bool.and_eq_true] at h1
          have hte' : slotAt ops e.on = some te := by simp [slotAt, hoe, hte]
          obtain rfl : te = t := Option.some.inj (hte'.symm.trans ht)
          rw [putSel_new h1.2 ht htes hnd hd heM]
          exact hR _ heM h1.2)
        unfold wpOp
        simp only [ho]
        rw [if_pos (by simp [Region.wanted, hgd])]
        refine .inl (hdoes.wp fun u w2 hu => ?_)
        have hb2 : Below w.heap.size w w2 := hb.trans (hu.1.mono hb.size)
        refine ⟨hS w2 hb2, ?_⟩
        rw [hdst, ← hslot, putSel_upd hLi hnd hd hiM]
        refine ih (updB L i) (updV v i u) _ w2 (left_upd hLi hnd hiM hm) (by simpa using hl1) (fun j d hj => ?_) hb2 (fun k hk hLk ok hok e he hbd heM => ?_) (fun k hk hLk => ?_)
        · by_cases c : i = j
          · subst c
            simp [updB, hiM, hl1, hj]
          · rw [getD_set_ne d c, hget j d hj]
            have : (j == i) = false := by simp [Ne.symm c]
            simp [updB, this]
        · by_cases c : k = i
          · subst c
            obtain rfl : ok = o' := Option.some.inj (hok.symm.trans ho')
            have := hL e he hbd heM
            simp [updB, this]
          · have hLk' : L k = true := by simpa [updB, c] using hLk
            have := hcl k hk hLk' ok hok e he hbd heM
            simp [updB, this]
        · by_cases c : k = i
          · subst c; simpa [updV] using hu.2
          · have hLk' : L k = true := by simpa [updB, c] using hLk
            simpa [updV, c] using stable k (v k) w1 w2 hu.1 (hR k hk hLk')
  have h0 := key M.length (fun _ => false) (fun _ => undef) listed w (by rw [List.filter_eq_self.2 (fun _ _ => by simp)]) rfl (fun j d hj => by simp) (Below.refl _ _) (fun _ _ h => absurd h (by simp)) (fun _ _ h => absurd h (by simp))
  have e0 : putSel ops (fun _ => false) (fun _ => undef) M a = a := by
    have : ∀ (N : List Nat) (a : Act), putSel ops (fun _ => false) (fun _ => undef) N a = a := by
      intro N
      induction N with
      | nil => intro a; rfl
      | cons k N ih => intro a; unfold putSel; rw [if_neg (by simp)]; exact ih a
    exact this M a
  rw [e0] at h0
  rw [hf]; exact h0
end Go.Proofs.YtcigceaadkjenaaDoor
