/- Layer 15: how long a text's words are; what a part of a text's words says of the whole. -/
import Derived.Test.YtcigceaadkjenaaDoorImgMath
namespace Go.Proofs.YtcigceaadkjenaaDoor
set_option linter.unusedVariables false

theorem wds_cons (cur : List UInt8) (rm : Bool) (c : UInt8) (r : List UInt8) : ∃ rm' : Bool, wds cur rm (c :: r) = if c = 10 ∨ c = 32 ∨ rm' = true then (if cur = [] then wds [] rm' r else cur :: wds [] rm' r) else wds (cur ++ [c]) rm' r := by
  rw [wds]
  exact ⟨_, rfl⟩
theorem wds_len : ∀ (l cur : List UInt8) (rm : Bool), (∀ q ∈ wds cur rm l, q.length ≤ cur.length + l.length) ∧ (wds cur rm l).length ≤ 1 + l.length
  | [], cur, rm => by
    unfold wds
    split
    · simp
    · constructor
      · intro q h; simp at h; subst h; simp
      · simp
  | c :: r, cur, rm => by
    obtain ⟨rm', e⟩ := wds_cons cur rm c r
    obtain ⟨a0, b0⟩ := wds_len r [] rm'
    obtain ⟨a1, b1⟩ := wds_len r (cur ++ [c]) rm'
    rw [e]
    split
    · split
      · constructor
        · intro q h; have := a0 q h; simp at this ⊢; omega
        · simp; omega
      · constructor
        · intro q h
          rcases List.mem_cons.1 h with rfl | h
          · simp
          · have := a0 q h; simp at this ⊢; omega
        · simp; omega
    · constructor
      · intro q h; have := a1 q h; simp at this ⊢; omega
      · simp; omega
theorem words_len (l : List UInt8) : (∀ q ∈ wordsL l, q.length ≤ l.length) ∧ (wordsL l).length ≤ 1 + l.length := by
  have := wds_len l [] false
  rw [wds_words] at this
  simpa using this


/-- What fails, fails whatever comes behind it. -/
theorem fold_none {hx : List UInt8 → Int} {ws : List (List UInt8)} (vs : List (List UInt8)) {ps : List Prt} (h : foldW hx ps ws = none) : foldW hx ps (ws ++ vs) = none := by
  rw [foldW_app, h]; rfl
theorem fold_snoc {hx : List UInt8 → Int} {ws : List (List UInt8)} {w : List UInt8} {ps qs : List Prt} (h : foldW hx ps ws = some qs) : foldW hx ps (ws ++ [w]) = takeL hx qs w := by
  rw [foldW_app, h]
  show foldW hx qs [w] = _
  rw [foldW]
  cases takeL hx qs w <;> rfl
theorem parse_none {hx : List UInt8 → Int} {l : List UInt8} (h : foldW hx [] (wordsL l) = none) : parseL hx l = ([], 1) := by unfold parseL; rw [h]
theorem parse_some {hx : List UInt8 → Int} {l : List UInt8} {ps : List Prt} (h : foldW hx [] (wordsL l) = some ps) : parseL hx l = if longL ps then ([], 3) else (ps, 0) := by unfold parseL; rw [h]
theorem words_part {l : List UInt8} {pre : List (List UInt8)} {t : List (List UInt8)} (h : splN l = pre ++ t) : wordsL l = pre.flatMap lineW ++ t.flatMap lineW := by
  unfold wordsL; rw [h, List.flatMap_append]
theorem words_part_len {l : List UInt8} {pre : List (List UInt8)} {t : List (List UInt8)} (h : splN l = pre ++ t) : (pre.flatMap lineW).length ≤ 1 + l.length := by
  have := (words_len l).2
  rw [words_part h, List.length_append] at this
  omega
end Go.Proofs.YtcigceaadkjenaaDoor
