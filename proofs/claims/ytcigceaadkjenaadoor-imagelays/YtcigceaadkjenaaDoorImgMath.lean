/- Layer 15: an image's text as mathematics: lines, words, parts. No program in sight. -/
import Derived.Test.YtcigceaadkjenaaDoorMath
namespace Go.Proofs.YtcigceaadkjenaaDoor
set_option linter.unusedVariables false

/-- A text's lines: what stands between two signs 10. -/
def splN : List UInt8 → List (List UInt8)
  | [] => [[]]
  | c :: r => if c = 10 then [] :: splN r else ((c :: (splN r).headD []) :: (splN r).tail)
theorem splN_cons (l : List UInt8) : ∃ h t, splN l = h :: t := by
  cases l with
  | nil => exact ⟨_, _, rfl⟩
  | cons c r =>
    unfold splN
    split
    · exact ⟨_, _, rfl⟩
    · exact ⟨_, _, rfl⟩
theorem splN_len : ∀ (l : List UInt8), ∀ q ∈ splN l, q.length ≤ l.length
  | [], q, h => by simp [splN] at h; subst h; simp
  | c :: r, q, h => by
    have ih := splN_len r
    unfold splN at h
    split at h
    · rcases List.mem_cons.1 h with rfl | h
      · simp
      · have := ih q h; simp; omega
    · obtain ⟨a, t, e⟩ := splN_cons r
      rw [e] at h ih
      simp only [List.headD_cons, List.tail_cons] at h
      rcases List.mem_cons.1 h with rfl | h
      · have := ih a (by simp); simp; omega
      · have := ih q (List.mem_cons_of_mem _ h); simp; omega

/-- What stands ahead of a remark. -/
def cutR (l : List UInt8) : List UInt8 := l.takeWhile (fun c => decide (c ≠ 35))
theorem cutR_hash (r : List UInt8) : cutR (35 :: r) = [] := rfl
theorem cutR_other (c : UInt8) (r : List UInt8) (h : c ≠ 35) : cutR (c :: r) = c :: cutR r := by simp [cutR, h]
theorem cutR_len (l : List UInt8) : (cutR l).length ≤ l.length := by
  unfold cutR
  exact (List.takeWhile_prefix _).length_le

/-- The words between blanks, behind the beginning of one. -/
def flds : List UInt8 → List UInt8 → List (List UInt8)
  | cur, [] => if cur = [] then [] else [cur]
  | cur, c :: r => if c = 32 then (if cur = [] then flds [] r else cur :: flds [] r) else flds (cur ++ [c]) r

/-- The document's words, sign by sign: the beginning of one; whether a remark has begun. -/
def wds : List UInt8 → Bool → List UInt8 → List (List UInt8)
  | cur, _, [] => if cur = [] then [] else [cur]
  | cur, rm, c :: r =>
    let rm' := if c = 10 then false else if c = 35 then true else rm
    if c = 10 ∨ c = 32 ∨ rm' = true then (if cur = [] then wds [] rm' r else cur :: wds [] rm' r) else wds (cur ++ [c]) rm' r

/-- A line's words. -/
def lineW (l : List UInt8) : List (List UInt8) := flds [] (cutR l)
/-- A text's words. -/
def wordsL (l : List UInt8) : List (List UInt8) := (splN l).flatMap lineW

theorem wds_spl : ∀ (l cur : List UInt8), wds cur false l = flds cur (cutR ((splN l).headD [])) ++ (splN l).tail.flatMap lineW ∧ wds [] true l = (splN l).tail.flatMap lineW
  | [], cur => by simp [wds, splN, flds, cutR]
  | c :: r, cur => by
    obtain ⟨ih0, ih1⟩ := wds_spl r []
    obtain ⟨h, t, e⟩ := splN_cons r
    have ihc := (wds_spl r (cur ++ [c])).1
    rw [e] at ih0 ih1 ihc
    simp only [List.headD_cons, List.tail_cons] at ih0 ih1 ihc
    by_cases h10 : c = 10
    · subst h10
      have es : splN (10 :: r) = [] :: splN r := by rw [splN]; simp
      rw [es, e]
      have e2 : cutR ([] : List UInt8) = [] := rfl
      simp only [List.headD_cons, List.tail_cons, List.flatMap_cons, e2]
      constructor
      · rw [wds]
        simp only [if_true, true_or, ih0, flds]
        split
        · simp [lineW]
        · simp [lineW]
      · rw [wds]
        simp only [if_true, true_or, ih0]
        simp [lineW]
    · have es : splN (c :: r) = (c :: h) :: t := by rw [splN, if_neg h10, e]; rfl
      rw [es]
      simp only [List.headD_cons, List.tail_cons]
      by_cases h35 : c = 35
      · subst h35
        rw [cutR_hash]
        constructor
        · rw [wds]
          simp only [h10, if_false, if_true, or_true, ih1, flds]
          split
          · simp
          · simp
        · rw [wds]
          simp only [h10, if_false, if_true, or_true, ih1]
      · rw [cutR_other c h h35]
        constructor
        · by_cases h32 : c = 32
          · subst h32
            rw [wds, flds]
            simp only [h10, h35, if_false, if_true, false_or, true_or, ih0]
            split
            · rfl
            · rfl
          · rw [wds, flds]
            simp only [h10, h35, h32, if_false, false_or, Bool.false_eq_true]
            exact ihc
        · rw [wds]
          simp only [h10, h35, if_false, or_true, if_true, ih1]
theorem wds_words (l : List UInt8) : wds [] false l = wordsL l := by
  rw [(wds_spl l []).1]
  obtain ⟨h, t, e⟩ := splN_cons l
  unfold wordsL
  rw [e]
  simp [lineW]

theorem flds_ne : ∀ (l cur : List UInt8), ∀ q ∈ flds cur l, q ≠ []
  | [], cur, q, h => by
    unfold flds at h
    split at h
    · simp at h
    · simp at h; subst h; assumption
  | c :: r, cur, q, h => by
    rw [flds] at h
    split at h
    · split at h
      · exact flds_ne r [] q h
      · rcases List.mem_cons.1 h with rfl | h
        · assumption
        · exact flds_ne r [] q h
    · exact flds_ne r _ q h
theorem flds_len : ∀ (l cur : List UInt8), (∀ q ∈ flds cur l, q.length ≤ cur.length + l.length) ∧ (flds cur l).length ≤ 1 + l.length
  | [], cur => by
    unfold flds
    split
    · simp
    · constructor
      · intro q h; simp at h; subst h; simp
      · simp
  | c :: r, cur => by
    obtain ⟨a0, b0⟩ := flds_len r []
    obtain ⟨a1, b1⟩ := flds_len r (cur ++ [c])
    rw [flds]
    split
    · split
      · constructor
        · intro q h; have := a0 q h; simp at this ⊢; omega
        · simp; omega
      · constructor
        · intro q h
          rcases List.mem_cons.1 h with rfl | h
          · simp
          · have := a0 q h; simp at this ⊢; omega
        · simp; omega
    · constructor
      · intro q h; have := a1 q h; simp at this ⊢; omega
      · simp; omega

/-- Signs that are no blanks, behind a word's beginning. -/
theorem flds_run : ∀ (x cur r : List UInt8), (∀ c ∈ x, c ≠ 32) → flds cur (x ++ r) = flds (cur ++ x) r
  | [], cur, r, _ => by simp
  | c :: x, cur, r, h => by
    rw [List.cons_append, flds, if_neg (h c (by simp)), flds_run x _ r (fun d hd => h d (List.mem_cons_of_mem _ hd))]
    simp
theorem flds_run_lone (x : List UInt8) (h : ∀ c ∈ x, c ≠ 32) (hx : x ≠ []) : flds [] x = [x] := by
  have := flds_run x [] [] h
  simp at this
  rw [this, flds, if_neg hx]
theorem flds_sp (cur r : List UInt8) (h : cur ≠ []) : flds cur (32 :: r) = cur :: flds [] r := by rw [flds, if_pos rfl, if_neg h]
theorem flds_sp0 (r : List UInt8) : flds [] (32 :: r) = flds [] r := by rw [flds, if_pos rfl, if_pos rfl]

/-! Parts -/

/-- A part: its address, its bytes. -/
abbrev Prt := Int × List Int
/-- One byte more of the part that was begun last. -/
def addB (ps : List Prt) (b : Int) : List Prt :=
  match ps.getLast? with
  | none => [(2147483648, [b])]
  | some p => ps.dropLast ++ [(p.1, p.2 ++ [b])]
theorem addB_nil (b : Int) : addB [] b = [(2147483648, [b])] := rfl
theorem addB_snoc (ps : List Prt) (p : Prt) (b : Int) : addB (ps ++ [p]) b = ps ++ [(p.1, p.2 ++ [b])] := by
  unfold addB
  simp
/-- What a word says: hx is what digits say (below 0: nothing). -/
def takeL (hx : List UInt8 → Int) (ps : List Prt) (w : List UInt8) : Option (List Prt) :=
  if w.headD 0 = 64 then (if hx w.tail < 0 then none else some (ps ++ [(hx w.tail, [])]))
  else if hx w < 0 ∨ w.length ≠ 2 then none else some (addB ps (hx w % 256))
def foldW (hx : List UInt8 → Int) : List Prt → List (List UInt8) → Option (List Prt)
  | ps, [] => some ps
  | ps, w :: ws => match takeL hx ps w with
    | none => none
    | some qs => foldW hx qs ws
theorem foldW_app (hx : List UInt8 → Int) : ∀ (ws vs : List (List UInt8)) (ps : List Prt), foldW hx ps (ws ++ vs) = (foldW hx ps ws).bind fun qs => foldW hx qs vs
  | [], vs, ps => rfl
  | w :: ws, vs, ps => by
    rw [List.cons_append, foldW, foldW]
    cases takeL hx ps w with
    | none => rfl
    | some qs => exact foldW_app hx ws vs qs
/-- All bytes together. -/
def sumL (ps : List Prt) : Nat := (ps.map fun p => p.2.length).sum
def longL (ps : List Prt) : Bool := decide (1024 < ps.length ∨ 65536 < sumL ps)
theorem sumL_app (a b : List Prt) : sumL (a ++ b) = sumL a + sumL b := by simp [sumL]
theorem sumL_addB (ps : List Prt) (b : Int) : sumL (addB ps b) = sumL ps + 1 := by
  rcases List.eq_nil_or_concat ps with rfl | ⟨qs, p, rfl⟩
  · simp [addB_nil, sumL]
  · rw [List.concat_eq_append, addB_snoc, sumL_app, sumL_app]; simp [sumL]; omega
theorem len_addB (ps : List Prt) (b : Int) : (addB ps b).length ≤ ps.length + 1 := by
  rcases List.eq_nil_or_concat ps with rfl | ⟨qs, p, rfl⟩
  · simp [addB_nil]
  · rw [List.concat_eq_append, addB_snoc]; simp
/-- Each word puts one part or one byte at most. -/
theorem takeL_bd {hx : List UInt8 → Int} {ps qs : List Prt} {w : List UInt8} (h : takeL hx ps w = some qs) : qs.length ≤ ps.length + 1 ∧ sumL qs ≤ sumL ps + 1 := by
  unfold takeL at h
  split at h
  · split at h
    · cases h
    · cases h
      rw [sumL_app]
      simp [sumL]
  · split at h
    · cases h
    · cases h
      exact ⟨len_addB _ _, by rw [sumL_addB]; omega⟩
theorem foldW_bd {hx : List UInt8 → Int} : ∀ {ws : List (List UInt8)} {ps qs : List Prt}, foldW hx ps ws = some qs → qs.length ≤ ps.length + ws.length ∧ sumL qs ≤ sumL ps + ws.length
  | [], ps, qs, h => by cases h; simp
  | w :: ws, ps, qs, h => by
    rw [foldW] at h
    cases e : takeL hx ps w with
    | none => rw [e] at h; cases h
    | some xs =>
      rw [e] at h
      have a := takeL_bd e
      have b := foldW_bd (hx := hx) h
      simp
      omega
/-- What a text says: the parts, or an error's number. -/
def parseL (hx : List UInt8 → Int) (l : List UInt8) : List Prt × Int :=
  match foldW hx [] (wordsL l) with
  | none => ([], 1)
  | some ps => if longL ps then ([], 3) else (ps, 0)
end Go.Proofs.YtcigceaadkjenaaDoor
