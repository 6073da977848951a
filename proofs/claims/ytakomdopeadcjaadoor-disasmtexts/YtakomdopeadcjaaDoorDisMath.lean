/- Layer 5: texts of numbers and instructions, as lists of signs; two right instructions with one text are one (P5.2). No program in sight but layer 2's tables. -/
import Derived.Test.YtakomdopeadcjaaDoorEncMath
namespace Go.Proofs.YtakomdopeadcjaaDoor
open Go.RowKit
set_option linter.unusedVariables false

/-- Signs as a string. -/
def bs (l : List UInt8) : ByteArray := ⟨l.toArray⟩
theorem bs_app (a b : List UInt8) : bs a ++ bs b = bs (a ++ b) := by
  apply ByteArray.ext
  simp [bs]
theorem bs_size (l : List UInt8) : (bs l).size = l.length := by simp [bs, ByteArray.size]
theorem bs_inj {a b : List UInt8} (h : bs a = bs b) : a = b := by
  have := congrArg ByteArray.data h
  simpa [bs] using this
theorem nameS_bs (k : Nat) : nameS k = bs (nameL.getD k []) := rfl

def dch (d : Nat) : UInt8 := UInt8.ofNat (48 + d)
theorem dch_val (d : Nat) (h : d < 10) : (dch d).toNat = 48 + d := by
  unfold dch
  rw [UInt8.toNat_ofNat']
  omega
def digF : Nat → Nat → List UInt8
  | 0, n => [dch (n % 10)]
  | f + 1, n => if n < 10 then [dch n] else digF f (n / 10) ++ [dch (n % 10)]
/-- The decimal digits of a number below 10 to the 20. -/
def dig10 (n : Nat) : List UInt8 := digF 19 n

def valL (l : List UInt8) : Nat := l.foldl (fun a c => a * 10 + (c.toNat - 48)) 0
theorem valL_app (l : List UInt8) (c : UInt8) : valL (l ++ [c]) = valL l * 10 + (c.toNat - 48) := by simp [valL]
theorem valL_one (c : UInt8) : valL [c] = c.toNat - 48 := by simp [valL]
theorem val_digF : ∀ f n, n < 10 ^ (f + 1) → valL (digF f n) = n
  | 0, n, h => by
    have : n % 10 = n := by omega
    rw [digF, valL_one, this, dch_val n (by omega)]; omega
  | f + 1, n, h => by
    rw [digF]
    split
    · rw [valL_one, dch_val n (by assumption)]; omega
    · rw [valL_app, val_digF f (n / 10) (by rw [Nat.pow_succ] at h; omega), dch_val _ (by omega)]; omega
theorem digF_step (f n : Nat) (h : ¬ n < 10) : digF (f + 1) n = digF f (n / 10) ++ [dch (n % 10)] := by
  rw [digF, if_neg h]
/-- More fuel makes no difference. -/
theorem digF_more : ∀ f n, n < 10 ^ (f + 1) → digF (f + 1) n = digF f n
  | 0, n, h => by
    show (if n < 10 then [dch n] else digF 0 (n / 10) ++ [dch (n % 10)]) = [dch (n % 10)]
    rw [if_pos (by omega), show n % 10 = n from by omega]
  | f + 1, n, h => by
    show (if n < 10 then [dch n] else digF (f + 1) (n / 10) ++ [dch (n % 10)]) = (if n < 10 then [dch n] else digF f (n / 10) ++ [dch (n % 10)])
    rw [digF_more f (n / 10) (by rw [Nat.pow_succ] at h; omega)]
theorem dig10_small (n : Nat) (h : n < 10) : dig10 n = [dch n] := by
  unfold dig10; rw [digF, if_pos h]
theorem dig10_step (n : Nat) (h : ¬ n < 10) (h1 : n < 10 ^ 20) : dig10 n = dig10 (n / 10) ++ [dch (n % 10)] := by
  unfold dig10
  rw [digF_step 18 n h, digF_more 18 (n / 10) (by omega)]
theorem digF_len : ∀ f n, (digF f n).length ≤ f + 1
  | 0, n => by simp [digF]
  | f + 1, n => by
    rw [digF]
    split
    · simp
    · have := digF_len f (n / 10)
      simp; omega

/-- The signs of a number's text. -/
def IsNum (c : UInt8) : Prop := c = 45 ∨ (48 ≤ c.toNat ∧ c.toNat ≤ 57)
theorem dch_num (d : Nat) (h : d < 10) : 48 ≤ (dch d).toNat ∧ (dch d).toNat ≤ 57 := by rw [dch_val d h]; omega
theorem digF_num : ∀ f n, ∀ c ∈ digF f n, 48 ≤ c.toNat ∧ c.toNat ≤ 57
  | 0, n, c, h => by
    simp [digF] at h
    subst h; exact dch_num _ (by omega)
  | f + 1, n, c, h => by
    rw [digF] at h
    split at h
    · simp at h
      subst h; exact dch_num _ (by assumption)
    · simp at h
      rcases h with h | h
      · exact digF_num f _ c h
      · subst h; exact dch_num _ (by omega)

/-- A number's text. -/
def numL (n : Int) : List UInt8 := if n < 0 then 45 :: dig10 (0 - n).toNat else dig10 n.toNat
theorem numL_num (n : Int) : ∀ c ∈ numL n, IsNum c := by
  intro c h
  unfold numL at h
  split at h
  · simp at h
    rcases h with h | h
    · exact .inl h
    · exact .inr (digF_num _ _ c h)
  · exact .inr (digF_num _ _ c h)
theorem numL_len (n : Int) : (numL n).length ≤ 21 := by
  unfold numL
  split
  · have h := digF_len 19 (0 - n).toNat
    show (dig10 (0 - n).toNat).length + 1 ≤ 21
    unfold dig10; omega
  · have := digF_len 19 n.toNat
    unfold dig10; omega
theorem numL_inj {a b : Int} (ha : -10000000000000000000 < a ∧ a < 10000000000000000000) (hb : -10000000000000000000 < b ∧ b < 10000000000000000000) (h : numL a = numL b) : a = b := by
  have P : ∀ x : Nat, x < 10000000000000000000 → valL (dig10 x) = x := fun x hx => val_digF 19 x (Nat.lt_trans hx (by decide))
  have D : ∀ x : Nat, ∀ c ∈ dig10 x, c ≠ 45 := fun x c hc e => by
    have g := digF_num _ _ c hc
    rw [e] at g
    exact absurd g.1 (by decide)
  have N : ∀ (x y : Nat), dig10 x ≠ 45 :: dig10 y := fun x y e => D x 45 (by rw [e]; exact .head _) rfl
  unfold numL at h
  split at h <;> split at h
  · have := congrArg valL (List.cons.inj h).2
    rw [P _ (by omega), P _ (by omega)] at this
    omega
  · exact absurd h.symm (N _ _)
  · exact absurd h (N _ _)
  · have := congrArg valL h
    rw [P _ (by omega), P _ (by omega)] at this
    omega

/-- Two texts that go on behind a sign that neither piece holds. -/
theorem cut_at (c : UInt8) (hc : ¬ IsNum c) : ∀ (p p' r r' : List UInt8), (∀ x ∈ p, IsNum x) → (∀ x ∈ p', IsNum x) → p ++ c :: r = p' ++ c :: r' → p = p' ∧ r = r'
  | [], [], r, r', _, _, h => ⟨rfl, by simpa using h⟩
  | [], y :: q', r, r', _, h', h => by
    simp at h
    exact absurd (h.1 ▸ h' y (.head _)) hc
  | x :: q, [], r, r', h0, _, h => by
    simp at h
    exact absurd (h.1 ▸ h0 x (.head _)) hc
  | x :: q, y :: q', r, r', h0, h', h => by
    simp only [List.cons_append, List.cons.injEq] at h
    obtain ⟨e, he⟩ := h
    obtain ⟨e1, e2⟩ := cut_at c hc q q' r r' (fun z hz => h0 z (.tail _ hz)) (fun z hz => h' z (.tail _ hz)) he
    exact ⟨by rw [e, e1], e2⟩
theorem no44 : ¬ IsNum 44 := by unfold IsNum; decide
theorem no40 : ¬ IsNum 40 := by unfold IsNum; decide
theorem no41 : ¬ IsNum 41 := by unfold IsNum; decide
theorem num_cut (c : UInt8) (hc : ¬ IsNum c) {a b : Int} {r r' : List UInt8} (ha : -10000000000000000000 < a ∧ a < 10000000000000000000) (hb : -10000000000000000000 < b ∧ b < 10000000000000000000) (h : numL a ++ c :: r = numL b ++ c :: r') : a = b ∧ r = r' := by
  obtain ⟨e, e'⟩ := cut_at c hc _ _ _ _ (numL_num a) (numL_num b) h
  exact ⟨numL_inj ha hb e, e'⟩

/-- What stands behind the name and a blank; none: the name alone. -/
def restL (k : Nat) (rd rs1 rs2 imm csr : Int) : List UInt8 :=
  if formZ k = 1 then 32 :: 120 :: (numL rd ++ 44 :: 32 :: numL (imm / 4096))
  else if formZ k = 2 then 32 :: 120 :: (numL rd ++ 44 :: 32 :: numL (signedOf imm))
  else if formZ k = 3 then
    if k ≤ 15 then 32 :: 120 :: (numL rd ++ 44 :: 32 :: (numL (signedOf imm) ++ 40 :: 120 :: (numL rs1 ++ 41 :: [])))
    else 32 :: 120 :: (numL rd ++ 44 :: 32 :: 120 :: (numL rs1 ++ 44 :: 32 :: numL (signedOf imm)))
  else if formZ k = 4 then 32 :: 120 :: (numL rs1 ++ 44 :: 32 :: 120 :: (numL rs2 ++ 44 :: 32 :: numL (signedOf imm)))
  else if formZ k = 5 then 32 :: 120 :: (numL rs2 ++ 44 :: 32 :: (numL (signedOf imm) ++ 40 :: 120 :: (numL rs1 ++ 41 :: [])))
  else if formZ k = 6 then 32 :: 120 :: (numL rd ++ 44 :: 32 :: 120 :: (numL rs1 ++ 44 :: 32 :: 120 :: numL rs2))
  else if formZ k = 7 then 32 :: 120 :: (numL rd ++ 44 :: 32 :: 120 :: (numL rs1 ++ 44 :: 32 :: numL (signedOf imm)))
  else if formZ k = 8 then 32 :: 120 :: (numL rd ++ 44 :: 32 :: (numL csr ++ 44 :: 32 :: 120 :: numL rs1))
  else if formZ k = 9 then 32 :: 120 :: (numL rd ++ 44 :: 32 :: (numL csr ++ 44 :: 32 :: numL (signedOf imm)))
  else []
/-- An instruction's text. -/
def textL (k : Nat) (rd rs1 rs2 imm csr : Int) : List UInt8 := nameL.getD k [] ++ restL k rd rs1 rs2 imm csr

theorem name_plain : ∀ k, k < 58 → ∀ c ∈ nameL.getD k [], c ≠ 32 := by decide +kernel
theorem name_apart : ∀ k, k < 58 → ∀ j, j < 58 → nameL.getD k [] = nameL.getD j [] → k = j := by decide +kernel

theorem rest_blank (k : Nat) (hk : k < 58) (rd rs1 rs2 imm csr : Int) : restL k rd rs1 rs2 imm csr = [] ∨ ∃ r, restL k rd rs1 rs2 imm csr = 32 :: r := by
  unfold restL
  repeat' split
  all_goals first | exact .inr ⟨_, rfl⟩ | exact .inl rfl

/-- The name ends at the first blank. -/
theorem cut_blank : ∀ (p p' r r' : List UInt8), (∀ x ∈ p, x ≠ 32) → (∀ x ∈ p', x ≠ 32) → (r = [] ∨ ∃ q, r = 32 :: q) → (r' = [] ∨ ∃ q, r' = 32 :: q) → p ++ r = p' ++ r' → p = p' ∧ r = r'
  | [], [], r, r', _, _, _, _, h => ⟨rfl, by simpa using h⟩
  | [], y :: q', r, r', _, h', hr, _, h => by
    rcases hr with rfl | ⟨q, rfl⟩
    · simp at h
    · simp at h
      exact absurd h.1.symm (h' y (.head _))
  | x :: q, [], r, r', h0, _, _, hr', h => by
    rcases hr' with rfl | ⟨q, rfl⟩
    · simp at h
    · simp at h
      exact absurd h.1 (h0 x (.head _))
  | x :: q, y :: q', r, r', h0, h', hr, hr', h => by
    simp only [List.cons_append, List.cons.injEq] at h
    obtain ⟨e, he⟩ := h
    obtain ⟨e1, e2⟩ := cut_blank q q' r r' (fun z hz => h0 z (.tail _ hz)) (fun z hz => h' z (.tail _ hz)) hr hr' he
    exact ⟨by rw [e, e1], e2⟩

theorem signed_inj {a b : Int} (a0 : 0 ≤ a) (a1 : a < 4294967296) (b0 : 0 ≤ b) (b1 : b < 4294967296) (h : signedOf a = signedOf b) : a = b := by
  unfold signedOf at h
  split at h <;> split at h <;> omega
theorem signed_small {a : Int} (a0 : 0 ≤ a) (a1 : a < 4294967296) : -10000000000000000000 < signedOf a ∧ signedOf a < 10000000000000000000 := by
  unfold signedOf; split <;> omega

set_option maxHeartbeats 1000000 in
/-- P5.2 -/
theorem text_inj (k j : Nat) (hk : k < 58) (hj : j < 58) (rd rs1 rs2 imm csr rd' rs1' rs2' imm' csr' : Int) (i0 : 0 ≤ imm) (i1 : imm < 4294967296) (i0' : 0 ≤ imm') (i1' : imm' < 4294967296)
    (hr : rightOf (formZ k) rd rs1 rs2 imm csr = true) (hr' : rightOf (formZ j) rd' rs1' rs2' imm' csr' = true) (h : textL k rd rs1 rs2 imm csr = textL j rd' rs1' rs2' imm' csr') :
    k = j ∧ rd = rd' ∧ rs1 = rs1' ∧ rs2 = rs2' ∧ imm = imm' ∧ csr = csr' := by
  obtain ⟨en, er⟩ := cut_blank _ _ _ _ (name_plain k hk) (name_plain j hj) (rest_blank k hk _ _ _ _ _) (rest_blank j hj _ _ _ _ _) h
  obtain rfl := name_apart k hk j hj en
  clear en h
  obtain ⟨p1, p2, p3, p4, p5⟩ := right_parts _ _ _ _ _ _ hr
  obtain ⟨q1, q2, q3, q4, q5⟩ := right_parts _ _ _ _ _ _ hr'
  have s1 := signed_small i0 i1
  have s2 := signed_small i0' i1'
  have B : ∀ {x : Int} {b : Bool} {l : Int}, l ≤ 4095 → partB x b l = true → -10000000000000000000 < x ∧ x < 10000000000000000000 := fun {x b l} hl h => by
    cases b
    · have := partB_n h; omega
    · have := partB_y h; omega
  have b1 := B (by decide) p1
  have b2 := B (by decide) p2
  have b3 := B (by decide) p3
  have b4 := B (by decide) p4
  have c1 := B (by decide) q1
  have c2 := B (by decide) q2
  have c3 := B (by decide) q3
  have c4 := B (by decide) q4
  have d1 : -10000000000000000000 < imm / 4096 ∧ imm / 4096 < 10000000000000000000 := by omega
  have d2 : -10000000000000000000 < imm' / 4096 ∧ imm' / 4096 < 10000000000000000000 := by omega
  have SI : signedOf imm = signedOf imm' → imm = imm' := signed_inj i0 i1 i0' i1'
  unfold restL at er
  have hf := formZ_lt k hk
  generalize formZ k = f at *
  clear hr hr' B
  refine ⟨rfl, ?_⟩
  rcases form10 hf with rfl | rfl | rfl | rfl | rfl | rfl | rfl | rfl | rfl | rfl
  · have e : imm = 0 := by simpa [immB] using p5
    have e' : imm' = 0 := by simpa [immB] using q5
    exact ⟨(partB_n p1).trans (partB_n q1).symm, (partB_n p2).trans (partB_n q2).symm, (partB_n p3).trans (partB_n q3).symm, e.trans e'.symm, (partB_n p4).trans (partB_n q4).symm⟩
  · have er : (32 : UInt8) :: 120 :: (numL rd ++ 44 :: 32 :: numL (imm / 4096)) = 32 :: 120 :: (numL rd' ++ 44 :: 32 :: numL (imm' / 4096)) := er
    obtain ⟨g1, g2⟩ := num_cut 44 no44 b1 c1 (List.cons.inj (List.cons.inj er).2).2
    have g3 := numL_inj d1 d2 (List.cons.inj g2).2
    have e : imm % 4096 = 0 := by simpa [immB] using p5
    have e' : imm' % 4096 = 0 := by simpa [immB] using q5
    exact ⟨g1, (partB_n p2).trans (partB_n q2).symm, (partB_n p3).trans (partB_n q3).symm, by omega, (partB_n p4).trans (partB_n q4).symm⟩
  · have er : (32 : UInt8) :: 120 :: (numL rd ++ 44 :: 32 :: numL (signedOf imm)) = 32 :: 120 :: (numL rd' ++ 44 :: 32 :: numL (signedOf imm')) := er
    obtain ⟨g1, g2⟩ := num_cut 44 no44 b1 c1 (List.cons.inj (List.cons.inj er).2).2
    exact ⟨g1, (partB_n p2).trans (partB_n q2).symm, (partB_n p3).trans (partB_n q3).symm, SI (numL_inj s1 s2 (List.cons.inj g2).2), (partB_n p4).trans (partB_n q4).symm⟩
  · by_cases hk15 : k ≤ 15
    · simp only [hk15, if_true] at er
      have er : (32 : UInt8) :: 120 :: (numL rd ++ 44 :: 32 :: (numL (signedOf imm) ++ 40 :: 120 :: (numL rs1 ++ 41 :: []))) = 32 :: 120 :: (numL rd' ++ 44 :: 32 :: (numL (signedOf imm') ++ 40 :: 120 :: (numL rs1' ++ 41 :: []))) := er
      obtain ⟨g1, g2⟩ := num_cut 44 no44 b1 c1 (List.cons.inj (List.cons.inj er).2).2
      obtain ⟨g3, g4⟩ := num_cut 40 no40 s1 s2 (List.cons.inj g2).2
      obtain ⟨g5, _⟩ := num_cut 41 no41 b2 c2 (List.cons.inj g4).2
      exact ⟨g1, g5, (partB_n p3).trans (partB_n q3).symm, SI g3, (partB_n p4).trans (partB_n q4).symm⟩
    · simp only [hk15, if_false] at er
      have er : (32 : UInt8) :: 120 :: (numL rd ++ 44 :: 32 :: 120 :: (numL rs1 ++ 44 :: 32 :: numL (signedOf imm))) = 32 :: 120 :: (numL rd' ++ 44 :: 32 :: 120 :: (numL rs1' ++ 44 :: 32 :: numL (signedOf imm'))) := er
      obtain ⟨g1, g2⟩ := num_cut 44 no44 b1 c1 (List.cons.inj (List.cons.inj er).2).2
      obtain ⟨g3, g4⟩ := num_cut 44 no44 b2 c2 (List.cons.inj (List.cons.inj g2).2).2
      exact ⟨g1, g3, (partB_n p3).trans (partB_n q3).symm, SI (numL_inj s1 s2 (List.cons.inj g4).2), (partB_n p4).trans (partB_n q4).symm⟩
  · have er : (32 : UInt8) :: 120 :: (numL rs1 ++ 44 :: 32 :: 120 :: (numL rs2 ++ 44 :: 32 :: numL (signedOf imm))) = 32 :: 120 :: (numL rs1' ++ 44 :: 32 :: 120 :: (numL rs2' ++ 44 :: 32 :: numL (signedOf imm'))) := er
    obtain ⟨g1, g2⟩ := num_cut 44 no44 b2 c2 (List.cons.inj (List.cons.inj er).2).2
    obtain ⟨g3, g4⟩ := num_cut 44 no44 b3 c3 (List.cons.inj (List.cons.inj g2).2).2
    exact ⟨(partB_n p1).trans (partB_n q1).symm, g1, g3, SI (numL_inj s1 s2 (List.cons.inj g4).2), (partB_n p4).trans (partB_n q4).symm⟩
  · have er : (32 : UInt8) :: 120 :: (numL rs2 ++ 44 :: 32 :: (numL (signedOf imm) ++ 40 :: 120 :: (numL rs1 ++ 41 :: []))) = 32 :: 120 :: (numL rs2' ++ 44 :: 32 :: (numL (signedOf imm') ++ 40 :: 120 :: (numL rs1' ++ 41 :: []))) := er
    obtain ⟨g1, g2⟩ := num_cut 44 no44 b3 c3 (List.cons.inj (List.cons.inj er).2).2
    obtain ⟨g3, g4⟩ := num_cut 40 no40 s1 s2 (List.cons.inj g2).2
    obtain ⟨g5, _⟩ := num_cut 41 no41 b2 c2 (List.cons.inj g4).2
    exact ⟨(partB_n p1).trans (partB_n q1).symm, g5, g1, SI g3, (partB_n p4).trans (partB_n q4).symm⟩
  · have er : (32 : UInt8) :: 120 :: (numL rd ++ 44 :: 32 :: 120 :: (numL rs1 ++ 44 :: 32 :: 120 :: numL rs2)) = 32 :: 120 :: (numL rd' ++ 44 :: 32 :: 120 :: (numL rs1' ++ 44 :: 32 :: 120 :: numL rs2')) := er
    obtain ⟨g1, g2⟩ := num_cut 44 no44 b1 c1 (List.cons.inj (List.cons.inj er).2).2
    obtain ⟨g3, g4⟩ := num_cut 44 no44 b2 c2 (List.cons.inj (List.cons.inj g2).2).2
    have e : imm = 0 := by simpa [immB] using p5
    have e' : imm' = 0 := by simpa [immB] using q5
    exact ⟨g1, g3, numL_inj b3 c3 (List.cons.inj (List.cons.inj g4).2).2, e.trans e'.symm, (partB_n p4).trans (partB_n q4).symm⟩
  · have er : (32 : UInt8) :: 120 :: (numL rd ++ 44 :: 32 :: 120 :: (numL rs1 ++ 44 :: 32 :: numL (signedOf imm))) = 32 :: 120 :: (numL rd' ++ 44 :: 32 :: 120 :: (numL rs1' ++ 44 :: 32 :: numL (signedOf imm'))) := er
    obtain ⟨g1, g2⟩ := num_cut 44 no44 b1 c1 (List.cons.inj (List.cons.inj er).2).2
    obtain ⟨g3, g4⟩ := num_cut 44 no44 b2 c2 (List.cons.inj (List.cons.inj g2).2).2
    exact ⟨g1, g3, (partB_n p3).trans (partB_n q3).symm, SI (numL_inj s1 s2 (List.cons.inj g4).2), (partB_n p4).trans (partB_n q4).symm⟩
  · have er : (32 : UInt8) :: 120 :: (numL rd ++ 44 :: 32 :: (numL csr ++ 44 :: 32 :: 120 :: numL rs1)) = 32 :: 120 :: (numL rd' ++ 44 :: 32 :: (numL csr' ++ 44 :: 32 :: 120 :: numL rs1')) := er
    obtain ⟨g1, g2⟩ := num_cut 44 no44 b1 c1 (List.cons.inj (List.cons.inj er).2).2
    obtain ⟨g3, g4⟩ := num_cut 44 no44 b4 c4 (List.cons.inj g2).2
    have e : imm = 0 := by simpa [immB] using p5
    have e' : imm' = 0 := by simpa [immB] using q5
    exact ⟨g1, numL_inj b2 c2 (List.cons.inj (List.cons.inj g4).2).2, (partB_n p3).trans (partB_n q3).symm, e.trans e'.symm, g3⟩
  · have er : (32 : UInt8) :: 120 :: (numL rd ++ 44 :: 32 :: (numL csr ++ 44 :: 32 :: numL (signedOf imm))) = 32 :: 120 :: (numL rd' ++ 44 :: 32 :: (numL csr' ++ 44 :: 32 :: numL (signedOf imm'))) := er
    obtain ⟨g1, g2⟩ := num_cut 44 no44 b1 c1 (List.cons.inj (List.cons.inj er).2).2
    obtain ⟨g3, g4⟩ := num_cut 44 no44 b4 c4 (List.cons.inj g2).2
    exact ⟨g1, (partB_n p2).trans (partB_n q2).symm, (partB_n p3).trans (partB_n q3).symm, SI (numL_inj s1 s2 (List.cons.inj g4).2), g3⟩
end Go.Proofs.YtakomdopeadcjaaDoor
